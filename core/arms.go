package core

import "retroact/api"

// anyCtor is the N of an arm for every constructor.
const anyCtor = -1

// arms are those of a match, as far as they have been checked.
type arms struct {
	ctors []api.Ctor
	// seen holds the constructors that have an arm, and anyCtor.
	seen map[int]bool
}

// armsOf returns those of a match before the first one, if the type of what is matched is a variant.
func (s *scope) armsOf(matched api.Expr) (*arms, bool) {
	t, ok := s.has(matched)
	ctors, isVariant := s.ctorsOf(t)
	return &arms{ctors: ctors, seen: map[int]bool{}}, ok && isVariant
}

// arm reports whether an arm for a constructor is valid that binds slots from the first one on, in the scope of which the part behind it must hold.
func (s *scope) arm(a *arms, ctor, first int, holds func() bool) bool {
	isCtor := isIndex(ctor, len(a.ctors))
	if !isCtor && ctor != anyCtor || a.seen[ctor] || a.seen[anyCtor] || !isIndex(first, s.slots+1) {
		return false
	}
	a.seen[ctor] = true
	var fields []api.Field
	if isCtor {
		fields = a.ctors[ctor].Fields
	}
	ok := s.bindAll(first, fields) && holds()
	for k := range fields {
		s.free(first + k)
	}
	return ok
}

// areComplete reports whether there is an arm for every value. A variant has a constructor, so that no match is complete without an arm.
func (a *arms) areComplete() bool { return a.seen[anyCtor] || len(a.seen) == len(a.ctors) }
