package mean

import "retroact/api"

// fault ends an invocation.
type fault struct {
	kind int
	// why is the reason of a fail statement.
	why string
}

func raise(kind int) { panic(fault{kind: kind}) }

// faultOf runs an invocation and returns the fault that ends it, or that of kind FNone.
func faultOf(run func()) (f fault) {
	defer func() {
		if x := recover(); x != nil {
			f = x.(fault)
		}
	}()
	run()
	return fault{kind: api.FNone}
}
