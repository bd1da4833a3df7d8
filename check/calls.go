package check

import (
	"retroact/api"
	"retroact/syntax"
)

func (s *scope) call(n api.Node, want api.Type) (api.Expr, api.Type) {
	callee := n.Kids[0]
	if callee.Kind == syntax.KName {
		x, t, _ := s.denoted(callee.Text)
		switch x.Op {
		case api.XFun:
			kids, result := s.applied(n, t)
			return api.Expr{Op: api.XCall, N: x.N, Kids: kids}, result
		case api.XPrim:
			return s.primitive(n, x.N, want)
		}
	}
	x, t := s.inferred(callee)
	if t.Kind != api.TyFun {
		fail(api.ErrType, n)
	}
	kids, result := s.applied(n, t)
	return api.Expr{Op: api.XApply, Kids: append([]api.Expr{x}, kids...)}, result
}

// applied translates the arguments of a call of a function type, and returns the type of its result.
func (s *scope) applied(n api.Node, t api.Type) ([]api.Expr, api.Type) {
	result := len(t.Args) - 1
	return s.arguments(n, n.Kids[1:], t.Args[:result]), t.Args[result]
}

// arguments translates those of a form.
func (s *scope) arguments(form api.Node, l []api.Node, params []api.Type) []api.Expr {
	if len(l) != len(params) {
		fail(api.ErrType, form)
	}
	var all []api.Expr
	for k, n := range l {
		all = append(all, s.checked(n, params[k]))
	}
	return all
}

// primitive translates a call of the primitive function of a number.
func (s *scope) primitive(n api.Node, number int, want api.Type) (api.Expr, api.Type) {
	args := n.Kids[1:]
	params, result := signature(number, api.Type{})
	if len(args) != len(params) {
		fail(api.ErrType, n)
	}
	x := api.Expr{Op: api.XPrim, N: number}
	if params[0].Kind == api.TyList {
		expected := api.Type{}
		if result.Kind == api.TyList && want.Kind == api.TyList {
			expected = want
		}
		y, t := s.expr(args[0], expected)
		if t.Kind != api.TyList {
			fail(api.ErrType, args[0])
		}
		params, result = signature(number, t.Args[0])
		x.Kids = append(x.Kids, y)
	}
	for k := len(x.Kids); k < len(args); k++ {
		x.Kids = append(x.Kids, s.checked(args[k], params[k]))
	}
	return x, result
}

// signature returns that of the primitive function of a number for lists of an element type.
func signature(number int, element api.Type) (params []api.Type, result api.Type) {
	integer, text, list := basic(api.TyInt), basic(api.TyText), listOf(element)
	switch number {
	case api.PLen:
		return []api.Type{list}, integer
	case api.PAt:
		return []api.Type{list, integer}, element
	case api.PPut:
		return []api.Type{list, integer, element}, list
	case api.PSlice:
		return []api.Type{list, integer, integer}, list
	case api.PSize:
		return []api.Type{text}, integer
	case api.PSub:
		return []api.Type{text, integer, integer}, text
	}
	return []api.Type{integer}, text
}
