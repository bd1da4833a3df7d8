package check

import (
	"slices"

	"retroact/api"
	"retroact/syntax"
	"retroact/types"
)

// expr translates an expression and returns its type, which is the expected one if that has a kind.
func (s *scope) expr(n api.Node, want api.Type) (api.Expr, api.Type) {
	x, t := s.form(n, want)
	if want.Kind != 0 && !types.Same(t, want) {
		fail(api.ErrType, n)
	}
	return x, t
}

func (s *scope) inferred(n api.Node) (api.Expr, api.Type) { return s.expr(n, api.Type{}) }

func (s *scope) checked(n api.Node, want api.Type) api.Expr {
	x, _ := s.expr(n, want)
	return x
}

// form translates an expression by its kind. The expected type directs that of the result, which may still differ from it.
func (s *scope) form(n api.Node, want api.Type) (api.Expr, api.Type) {
	switch n.Kind {
	case syntax.KInt:
		return api.Expr{Op: api.XInt, N: n.N}, basic(api.TyInt)
	case syntax.KText:
		return api.Expr{Op: api.XText, S: n.Text}, basic(api.TyText)
	case syntax.KBool:
		return api.Expr{Op: api.XBool, N: n.N}, basic(api.TyBool)
	case syntax.KName:
		return s.name(n)
	case syntax.KSelf:
		return s.self(n)
	case syntax.KList:
		return s.list(n, want)
	case syntax.KNew:
		return s.construction(n)
	case syntax.KCons:
		return s.alternative(n)
	case syntax.KGet:
		return s.get(n)
	case syntax.KWith:
		return s.with(n, want)
	case syntax.KCall:
		return s.call(n, want)
	case syntax.KNeg:
		return s.operation(n, api.XNeg, basic(api.TyInt))
	case syntax.KNot:
		return s.operation(n, api.XNot, basic(api.TyBool))
	case syntax.KBin:
		return s.binary(n, want)
	case syntax.KIf:
		return s.conditional(n, want)
	case syntax.KLet:
		return s.let(n, want)
	case syntax.KMatch:
		return s.match(n, want)
	case syntax.KLambda:
		return s.lambda(n)
	}
	return api.Expr{Op: api.XUnit}, basic(api.TyUnit)
}

func (s *scope) name(n api.Node) (api.Expr, api.Type) {
	x, t, ok := s.denoted(n.Text)
	if !ok {
		fail(api.ErrName, n)
	}
	if x.Op == api.XPrim {
		fail(api.ErrType, n)
	}
	return x, t
}

func (s *scope) self(n api.Node) (api.Expr, api.Type) {
	x, t, ok := s.denoted(selfName)
	if !ok {
		fail(api.ErrName, n)
	}
	return x, t
}

func (s *scope) list(n api.Node, want api.Type) (api.Expr, api.Type) {
	if want.Kind != 0 && want.Kind != api.TyList || want.Kind == 0 && len(n.Kids) == 0 {
		fail(api.ErrType, n)
	}
	var element api.Type
	if want.Kind == api.TyList {
		element = want.Args[0]
	}
	x := api.Expr{Op: api.XList}
	for _, kid := range n.Kids {
		y, t := s.expr(kid, element)
		// The first element determines the type of the others.
		element = t
		x.Kids = append(x.Kids, y)
	}
	return x, listOf(element)
}

func (s *scope) conditional(n api.Node, want api.Type) (api.Expr, api.Type) {
	condition := s.checked(n.Kids[0], basic(api.TyBool))
	x, t := s.expr(n.Kids[1], want)
	y := s.checked(n.Kids[2], t)
	return api.Expr{Op: api.XIf, Kids: []api.Expr{condition, x, y}}, t
}

func (s *scope) let(n api.Node, want api.Type) (api.Expr, api.Type) {
	x, t := s.inferred(n.Kids[0])
	slot := s.bind(n.Text, t)
	y, result := s.expr(n.Kids[1], want)
	s.leave(slot)
	return api.Expr{Op: api.XLet, N: slot, Kids: []api.Expr{x, y}}, result
}

// construction translates the construction of a record.
func (s *scope) construction(n api.Node) (api.Expr, api.Type) {
	t := named(n.Text)
	fields, ok := s.fieldsOf(t)
	if !ok {
		fail(api.ErrName, n)
	}
	sets := s.sets(n.Kids, fields)
	if len(sets) < len(fields) {
		fail(api.ErrNeed, n)
	}
	x := api.Expr{Op: api.XRec, S: n.Text, Kids: make([]api.Expr, len(fields))}
	for _, a := range sets {
		x.Kids[a.field] = a.value
	}
	return x, t
}

// alternative translates a constructor of a variant with its arguments.
func (s *scope) alternative(n api.Node) (api.Expr, api.Type) {
	owner, k, _ := types.Ctor(s.out.Prog, n.Text)
	t := named(owner)
	ctors, ok := s.ctorsOf(t)
	if !ok {
		fail(api.ErrName, n)
	}
	kids := s.arguments(n, n.Kids, typesOf(ctors[k].Fields))
	return api.Expr{Op: api.XCtor, N: k, S: owner, Kids: kids}, t
}

func (s *scope) get(n api.Node) (api.Expr, api.Type) {
	x, t := s.inferred(n.Kids[0])
	fields, ok := s.fieldsOf(t)
	if !ok {
		fail(api.ErrType, n)
	}
	k := field(n, fields)
	return api.Expr{Op: api.XGet, N: k, Kids: []api.Expr{x}}, fields[k].Type
}

func (s *scope) with(n api.Node, want api.Type) (api.Expr, api.Type) {
	x, t := s.expr(n.Kids[0], want)
	fields, ok := s.fieldsOf(t)
	if !ok {
		fail(api.ErrType, n)
	}
	for _, a := range s.sets(n.Kids[1:], fields) {
		x = api.Expr{Op: api.XWith, N: a.field, Kids: []api.Expr{x, a.value}}
	}
	return x, t
}

// assignment is a value for the field of an index.
type assignment struct {
	field int
	value api.Expr
}

// sets translates the nodes that set fields, in their order.
func (s *scope) sets(l []api.Node, fields []api.Field) []assignment {
	var all []assignment
	seen := map[int]bool{}
	for _, n := range l {
		k := unset(n, fields, seen)
		all = append(all, assignment{k, s.checked(n.Kids[0], fields[k].Type)})
	}
	return all
}

// field returns the index of the field that a node names.
func field(n api.Node, fields []api.Field) int {
	k := slices.IndexFunc(fields, func(f api.Field) bool { return f.Name == n.Text })
	if k < 0 {
		fail(api.ErrName, n)
	}
	return k
}

// unset returns the index of the field that a node names, which may not have been seen before.
func unset(n api.Node, fields []api.Field, seen map[int]bool) int {
	k := field(n, fields)
	if seen[k] {
		fail(api.ErrTwice, n)
	}
	seen[k] = true
	return k
}
