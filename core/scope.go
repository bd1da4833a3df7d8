package core

import (
	"retroact/api"
	"retroact/types"
)

// scope is where an expression or a statement stands.
type scope struct {
	*program
	// slots is the number of slots, bound holds the types of those that are bound.
	slots int
	bound map[int]api.Type
	// vars are the state variables that may be used.
	vars []api.Var
	// actor is the actor type whose code it is, and empty if it is that of a function.
	actor string
}

// newScope returns a scope whose first slots are bound to parameters.
func (p *program) newScope(params []api.Field, slots int) *scope {
	s := &scope{program: p, slots: slots, bound: map[int]api.Type{}}
	s.bindAll(0, params)
	return s
}

// bind binds a slot, and reports whether that was possible.
func (s *scope) bind(slot int, t api.Type) bool {
	_, taken := s.bound[slot]
	if taken || !isIndex(slot, s.slots) {
		return false
	}
	s.bound[slot] = t
	return true
}

// bindAll binds the slots from the first one on to the types of fields, and reports whether that was possible.
func (s *scope) bindAll(first int, l []api.Field) bool {
	for k, f := range l {
		if !s.bind(first+k, f.Type) {
			return false
		}
	}
	return true
}

// free ends the binding of a slot.
func (s *scope) free(slot int) { delete(s.bound, slot) }

// typeOf returns the type of an expression, if it has one. The type is expected to be the one that is wanted, if that has a kind.
func (s *scope) typeOf(x api.Expr, want api.Type) (api.Type, bool) {
	if !isIndex(x.Op, len(s.operators)) {
		return api.Type{}, false
	}
	o := s.operators[x.Op]
	if o.condition == nil || !o.isShapeOf(x) {
		return api.Type{}, false
	}
	t, ok := o.condition(s, x, want)
	if !ok || want.Kind != 0 && !o.passes && !types.Same(t, want) {
		return api.Type{}, false
	}
	return t, true
}

// has returns the type that an expression has without an expected type.
func (s *scope) has(x api.Expr) (api.Type, bool) { return s.typeOf(x, api.Type{}) }

// is reports whether an expression is of a type.
func (s *scope) is(x api.Expr, t api.Type) bool {
	_, ok := s.typeOf(x, t)
	return ok
}

// are reports whether expressions are as many as some types, and of these types.
func (s *scope) are(l []api.Expr, want ...api.Type) bool {
	if len(l) != len(want) {
		return false
	}
	for k, x := range l {
		if !s.is(x, want[k]) {
			return false
		}
	}
	return true
}

// fill reports whether expressions are as many as some fields, and of their types.
func (s *scope) fill(l []api.Expr, fields []api.Field) bool { return s.are(l, typesOf(fields)...) }
