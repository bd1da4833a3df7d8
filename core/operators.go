package core

import (
	"retroact/api"
	"retroact/types"
)

// The fields of expressions and statements that an operator may use. Those that it does not use must be zero.
const (
	usesN = 1 << iota
	usesM
	usesS
	usesT
	usesThen
	usesElse
	usesArms
)

// anyNumber stands for a number of Kids or Xs that the condition of an operator decides on.
const anyNumber = -1

// operator says which expressions with it have a type.
type operator struct {
	// uses is the set of the fields besides Kids, whose number is kids.
	uses, kids int
	// passes tells that an expected type is that of parts of the expression, so that the result need not be compared with it again. (On every level of a deep list that would take the square of the time.)
	passes bool
	// condition returns the type of an expression of that shape, if it has one with an expected type, which has no kind if there is none. It is nil if the expression stands for none by itself.
	condition func(s *scope, x api.Expr, want api.Type) (api.Type, bool)
}

func (o operator) isShapeOf(x api.Expr) bool {
	used := uses(usesN, x.N != 0) | uses(usesM, x.M != 0) | uses(usesS, x.S != "")
	return used&^o.uses == 0 && (o.kids == anyNumber || o.kids == len(x.Kids))
}

// uses returns the set of a field, or the empty set if the field is not used.
func uses(field int, used bool) int {
	if used {
		return field
	}
	return 0
}

// operators returns the table of expressions of the chapter.
func operators() []operator {
	unit, boolean, integer, text := basic(api.TyUnit), basic(api.TyBool), basic(api.TyInt), basic(api.TyText)
	sign, arithmetic, logic := operation(integer, integer), operation(integer, integer, integer), operation(boolean, boolean, boolean)
	equality, order := comparison(types.Storable), comparison(isOrdered)
	return []operator{
		api.XUnit:  constant(unit, 0, func(x api.Expr) bool { return true }),
		api.XBool:  constant(boolean, usesN, func(x api.Expr) bool { return x.N == 0 || x.N == 1 }),
		api.XInt:   constant(integer, usesN, func(x api.Expr) bool { return -api.MaxNum <= x.N && x.N <= api.MaxNum }),
		api.XText:  constant(text, usesS, func(x api.Expr) bool { return len(x.S) <= api.MaxText }),
		api.XLocal: {uses: usesN, condition: (*scope).local},
		api.XState: {uses: usesN, condition: (*scope).state},
		api.XSelf:  {condition: (*scope).self},
		api.XList:  {kids: anyNumber, passes: true, condition: (*scope).list},
		api.XRec:   {uses: usesS, kids: anyNumber, condition: (*scope).record},
		api.XGet:   {uses: usesN, kids: 1, condition: (*scope).get},
		api.XWith:  {uses: usesN, kids: 2, passes: true, condition: (*scope).with},
		api.XCtor:  {uses: usesN | usesS, kids: anyNumber, condition: (*scope).alternative},
		api.XMatch: {kids: anyNumber, passes: true, condition: (*scope).match},
		api.XArm:   {uses: usesN | usesM, kids: 1},
		api.XIf:    {kids: 3, passes: true, condition: (*scope).conditional},
		api.XAnd:   logic,
		api.XOr:    logic,
		api.XNot:   operation(boolean, boolean),
		api.XNeg:   sign,
		api.XAdd:   arithmetic,
		api.XSub:   arithmetic,
		api.XMul:   arithmetic,
		api.XDiv:   arithmetic,
		api.XMod:   arithmetic,
		api.XCat:   {kids: 2, passes: true, condition: (*scope).concatenation},
		api.XEq:    equality,
		api.XNe:    equality,
		api.XLt:    order,
		api.XLe:    order,
		api.XGt:    order,
		api.XGe:    order,
		api.XLet:   {uses: usesN, kids: 2, passes: true, condition: (*scope).let},
		api.XCall:  {uses: usesN, kids: anyNumber, condition: (*scope).call},
		api.XFun:   {uses: usesN, kids: anyNumber, condition: (*scope).closure},
		api.XApply: {kids: anyNumber, condition: (*scope).application},
		api.XPrim:  {uses: usesN, kids: anyNumber, condition: (*scope).primitive},
	}
}

// constant returns the operator of expressions without Kids that have a type, if one of their fields is valid.
func constant(t api.Type, field int, isValid func(x api.Expr) bool) operator {
	return operator{uses: field, condition: func(_ *scope, x api.Expr, _ api.Type) (api.Type, bool) {
		return t, isValid(x)
	}}
}

// operation returns an operator that takes operands of some types to a result of a type.
func operation(result api.Type, operands ...api.Type) operator {
	return operator{kids: len(operands), condition: func(s *scope, x api.Expr, _ api.Type) (api.Type, bool) {
		return result, s.are(x.Kids, operands...)
	}}
}

// comparison returns an operator that compares operands of one of some types.
func comparison(isOne func(t api.Type) bool) operator {
	return operator{kids: 2, condition: func(s *scope, x api.Expr, _ api.Type) (api.Type, bool) {
		t, ok := s.has(x.Kids[0])
		return basic(api.TyBool), ok && isOne(t) && s.is(x.Kids[1], t)
	}}
}

func isOrdered(t api.Type) bool { return t.Kind == api.TyInt || t.Kind == api.TyText }

func isJoinable(t api.Type) bool { return t.Kind == api.TyText || t.Kind == api.TyList }
