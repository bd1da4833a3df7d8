package check

import (
	"slices"

	"retroact/api"
	"retroact/syntax"
)

// anyCtor is the name of a pattern for all constructors, and their index in the core language is anyIndex.
const (
	anyCtor  = "_"
	anyIndex = -1
)

// match translates a match of expressions.
func (s *scope) match(n api.Node, want api.Type) (api.Expr, api.Type) {
	var arms []api.Expr
	x := s.arms(n, func(ctor, slot int, body api.Node) {
		y, t := s.expr(body, want)
		// The first arm determines the type of the others.
		want = t
		arms = append(arms, api.Expr{Op: api.XArm, N: ctor, M: slot, Kids: []api.Expr{y}})
	})
	return api.Expr{Op: api.XMatch, Kids: append([]api.Expr{x}, arms...)}, want
}

// matchStmt translates a match of statements.
func (s *scope) matchStmt(n api.Node) api.Stmt {
	var arms []api.Stmt
	x := s.arms(n, func(ctor, slot int, body api.Node) {
		arms = append(arms, api.Stmt{Op: api.SArm, N: ctor, M: slot, Then: s.block(body)})
	})
	return api.Stmt{Op: api.SMatch, Xs: []api.Expr{x}, Arms: arms}
}

// arms translates the scrutinee of a match and hands out its arms: the index of the constructor, the slot of the first binding, and the body, with the bindings in scope.
func (s *scope) arms(n api.Node, each func(ctor, slot int, body api.Node)) api.Expr {
	x, t := s.inferred(n.Kids[0])
	ctors, ok := s.ctorsOf(t)
	if !ok {
		fail(api.ErrType, n.Kids[0])
	}
	slot := len(s.locals)
	seen := map[int]bool{}
	for _, arm := range n.Kids[1:] {
		ctor := ctorOf(arm, ctors, seen)
		seen[ctor] = true
		if ctor != anyIndex {
			s.bindFields(arm, ctors[ctor].Fields)
		}
		each(ctor, slot, last(arm))
		s.leave(slot)
	}
	if len(seen) < len(ctors) && !seen[anyIndex] {
		fail(api.ErrNeed, n)
	}
	return x
}

// ctorOf returns the index of the constructor of an arm, if none of the arms before it is for that one.
func ctorOf(arm api.Node, ctors []api.Ctor, seen map[int]bool) int {
	k := slices.IndexFunc(ctors, func(c api.Ctor) bool { return c.Name == arm.Text })
	if seen[anyIndex] || seen[k] {
		fail(api.ErrTwice, arm)
	}
	if arm.Text == anyCtor {
		return anyIndex
	}
	if k < 0 {
		fail(api.ErrName, arm)
	}
	return k
}

// bindFields makes the local bindings of an arm.
func (s *scope) bindFields(arm api.Node, fields []api.Field) {
	binds := kidsOf(arm, syntax.KBind)
	if len(binds) != len(fields) {
		fail(api.ErrType, arm)
	}
	for k, b := range binds {
		s.bind(b.Text, fields[k].Type)
	}
}
