package check

import (
	"retroact/api"
	"retroact/syntax"
)

// lambda translates a lambda into a closure of a function whose first parameters are what it captures.
func (s *scope) lambda(n api.Node) (api.Expr, api.Type) {
	body := len(n.Kids) - 1
	s.declaredTypes(n.Kids[:body])
	own := params(kidsOf(n, syntax.KField))
	result := typeOf(n.Kids[body-1])
	x := api.Expr{Op: api.XFun}
	var captured []api.Field
	for _, name := range freeNames(n) {
		y, t, ok := s.denoted(name)
		if ok && y.Op != api.XFun && y.Op != api.XPrim {
			x.Kids = append(x.Kids, y)
			captured = append(captured, api.Field{Name: name, Type: t})
		}
	}
	x.N = s.lift(append(captured, own...), n.Kids[body], result)
	return x, functionType(own, result)
}

// freeNames returns the names in an expression that are not bound within it, in the order of their first occurrence in pre-order.
func freeNames(n api.Node) []string {
	f := &finder{bound: map[string]int{}, seen: map[string]bool{}}
	f.visit(n)
	return f.found
}

// finder finds names that are not bound.
type finder struct {
	// bound counts the bindings of each name in scope.
	bound map[string]int
	seen  map[string]bool
	found []string
}

func (f *finder) visit(n api.Node) {
	switch n.Kind {
	case syntax.KName:
		f.use(n.Text)
	case syntax.KSelf:
		f.use(selfName)
	}
	names := boundNames(n)
	for k, kid := range n.Kids {
		if k == len(n.Kids)-1 {
			f.count(names, 1)
		}
		f.visit(kid)
	}
	f.count(names, -1)
}

func (f *finder) use(name string) {
	if f.bound[name] == 0 && !f.seen[name] {
		f.seen[name] = true
		f.found = append(f.found, name)
	}
}

func (f *finder) count(names []string, times int) {
	for _, name := range names {
		f.bound[name] += times
	}
}

// boundNames returns the names that a node of an expression binds in its last kid.
func boundNames(n api.Node) []string {
	var l []string
	if n.Kind == syntax.KLet {
		l = append(l, n.Text)
	}
	for _, kid := range n.Kids {
		if kid.Kind == syntax.KField || kid.Kind == syntax.KBind {
			l = append(l, kid.Text)
		}
	}
	return l
}
