package check

import (
	"retroact/api"
	"retroact/types"
)

// binaries are the words of the binary operators, at their operators in the core language.
var binaries = [...]string{
	api.XAnd: "and", api.XOr: "or",
	api.XAdd: "+", api.XSub: "-", api.XMul: "*", api.XDiv: "/", api.XMod: "%",
	api.XCat: "++",
	api.XEq:  "==", api.XNe: "!=", api.XLt: "<", api.XLe: "<=", api.XGt: ">", api.XGe: ">=",
}

func operator(word string) int {
	for op, w := range binaries {
		if w == word {
			return op
		}
	}
	return 0
}

func (s *scope) binary(n api.Node, want api.Type) (api.Expr, api.Type) {
	op := operator(n.Text)
	switch op {
	case api.XAnd, api.XOr:
		return s.operation(n, op, basic(api.TyBool))
	case api.XCat:
		return s.concatenation(n, want)
	case api.XEq, api.XNe:
		return s.comparison(n, op, types.Storable)
	case api.XLt, api.XLe, api.XGt, api.XGe:
		return s.comparison(n, op, isOrdered)
	}
	return s.operation(n, op, basic(api.TyInt))
}

// operation translates an operator whose operands and result are of one type.
func (s *scope) operation(n api.Node, op int, t api.Type) (api.Expr, api.Type) {
	x := api.Expr{Op: op}
	for _, kid := range n.Kids {
		x.Kids = append(x.Kids, s.checked(kid, t))
	}
	return x, t
}

// comparison translates an operator that compares operands of one of some types.
func (s *scope) comparison(n api.Node, op int, isOne func(t api.Type) bool) (api.Expr, api.Type) {
	x, t := s.inferred(n.Kids[0])
	if !isOne(t) {
		fail(api.ErrType, n.Kids[0])
	}
	y := s.checked(n.Kids[1], t)
	return api.Expr{Op: op, Kids: []api.Expr{x, y}}, basic(api.TyBool)
}

func (s *scope) concatenation(n api.Node, want api.Type) (api.Expr, api.Type) {
	if want.Kind != 0 && !isJoinable(want) {
		fail(api.ErrType, n)
	}
	x, t := s.expr(n.Kids[0], want)
	if !isJoinable(t) {
		fail(api.ErrType, n.Kids[0])
	}
	y := s.checked(n.Kids[1], t)
	return api.Expr{Op: api.XCat, Kids: []api.Expr{x, y}}, t
}

func isOrdered(t api.Type) bool { return t.Kind == api.TyInt || t.Kind == api.TyText }

func isJoinable(t api.Type) bool { return t.Kind == api.TyText || t.Kind == api.TyList }
