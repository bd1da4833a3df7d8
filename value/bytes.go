package value

import (
	"strings"

	"retroact/api"
	"retroact/code"
)

// writer serializes valid values.
type writer struct{ strings.Builder }

func (w *writer) value(v api.Value) {
	w.WriteString(code.Num(v.Kind))
	w.WriteString(code.Text(v.T))
	w.WriteString(code.Int(v.N))
	w.WriteString(code.Int(v.M))
	w.WriteString(code.Text(v.S))
	w.WriteString(code.Num(len(v.L)))
	for _, x := range v.L {
		w.value(x)
	}
}

// reader parses what a writer writes. Once its error flag is set, what it returns is of no use.
type reader struct {
	*code.Reader
	// nodes counts the nodes that were begun. No input lets the reader nest more of them than a valid value has.
	nodes int
}

// failed reports whether the error flag is set.
func (r *reader) failed() bool { return r.Left() == 0 && !r.Done() }

// fail sets the error flag.
func (r *reader) fail() { r.Take(-1) }

func (r *reader) value() api.Value {
	r.nodes++
	if r.nodes > api.MaxValue {
		r.fail()
	}
	v := api.Value{Kind: r.Num(), T: r.Text(), N: r.Int(), M: r.Int(), S: r.Text()}
	for count := r.Num(); len(v.L) < count && !r.failed(); {
		v.L = append(v.L, r.value())
	}
	return v
}
