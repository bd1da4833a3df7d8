package mean

import "retroact/api"

func isTrue(v api.Value) bool { return v.N == 1 }

func truth(holds bool) api.Value {
	if holds {
		return api.Value{Kind: api.VBool, N: 1}
	}
	return api.Value{Kind: api.VBool}
}

func integer(n int) api.Value { return api.Value{Kind: api.VInt, N: n} }

func text(s string) api.Value { return api.Value{Kind: api.VText, S: s} }

func list(l []api.Value) api.Value { return api.Value{Kind: api.VList, L: l} }

func reference(actor, path string) api.Value {
	return api.Value{Kind: api.VRef, T: actor, S: path}
}

// copied copies a value at every depth. Values share their elements as long as an invocation goes on.
func copied(v api.Value) api.Value {
	v.L = copies(v.L)
	return v
}

func copies(vs []api.Value) []api.Value {
	var l []api.Value
	if len(vs) > 0 {
		l = make([]api.Value, len(vs))
	}
	for k := range vs {
		l[k] = copied(vs[k])
	}
	return l
}
