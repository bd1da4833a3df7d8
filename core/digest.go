package core

import "retroact/api"

// numbering numbers what is mentioned, in the order of the first mention.
type numbering[K comparable] struct {
	numbers map[K]int
	order   []K
}

func newNumbering[K comparable]() *numbering[K] { return &numbering[K]{numbers: map[K]int{}} }

func (l *numbering[K]) number(k K) int {
	n, found := l.numbers[k]
	if !found {
		n = len(l.order)
		l.numbers[k] = n
		l.order = append(l.order, k)
	}
	return n
}

// reachable returns the bytes of a valid program of which P11.3 takes the digest.
func (p *program) reachable(a api.Actor) string {
	funs, decls := newNumbering[int](), newNumbering[string]()
	w := &writer{function: funs.number, mention: func(name string) { decls.number(name) }}
	w.actor(a)
	// Both orders grow while what they contain is written.
	for k := 0; k < len(funs.order); k++ {
		w.fun(p.Funs[funs.order[k]])
	}
	for k := 0; k < len(decls.order); k++ {
		w.decl(p.types[decls.order[k]])
	}
	return w.out.String()
}
