package core

import "retroact/api"

func (s *scope) local(x api.Expr, _ api.Type) (api.Type, bool) {
	t, ok := s.bound[x.N]
	return t, ok
}

func (s *scope) state(x api.Expr, _ api.Type) (api.Type, bool) {
	if !isIndex(x.N, len(s.vars)) {
		return api.Type{}, false
	}
	return s.vars[x.N].Type, true
}

func (s *scope) self(_ api.Expr, _ api.Type) (api.Type, bool) { return refTo(s.actor), s.actor != "" }

func (s *scope) list(x api.Expr, want api.Type) (api.Type, bool) {
	var element api.Type
	switch {
	case want.Kind == api.TyList:
		element = want.Args[0]
	case want.Kind != 0 || len(x.Kids) == 0:
		return api.Type{}, false
	}
	for _, kid := range x.Kids {
		t, ok := s.typeOf(kid, element)
		if !ok {
			return api.Type{}, false
		}
		// The first element determines the type of the others.
		element = t
	}
	return listOf(element), true
}

func (s *scope) record(x api.Expr, _ api.Type) (api.Type, bool) {
	t := named(x.S)
	fields, ok := s.fieldsOf(t)
	return t, ok && s.fill(x.Kids, fields)
}

func (s *scope) get(x api.Expr, _ api.Type) (api.Type, bool) {
	t, ok := s.has(x.Kids[0])
	if !ok {
		return api.Type{}, false
	}
	return s.field(t, x.N)
}

func (s *scope) with(x api.Expr, want api.Type) (api.Type, bool) {
	t, ok := s.typeOf(x.Kids[0], want)
	if !ok {
		return api.Type{}, false
	}
	f, ok := s.field(t, x.N)
	return t, ok && s.is(x.Kids[1], f)
}

// field returns the type of the field with an index, if a type is a record and has one.
func (s *scope) field(t api.Type, index int) (api.Type, bool) {
	fields, ok := s.fieldsOf(t)
	if !ok || !isIndex(index, len(fields)) {
		return api.Type{}, false
	}
	return fields[index].Type, true
}

func (s *scope) alternative(x api.Expr, _ api.Type) (api.Type, bool) {
	t := named(x.S)
	ctors, ok := s.ctorsOf(t)
	return t, ok && isIndex(x.N, len(ctors)) && s.fill(x.Kids, ctors[x.N].Fields)
}

func (s *scope) match(x api.Expr, want api.Type) (api.Type, bool) {
	if len(x.Kids) == 0 {
		return api.Type{}, false
	}
	a, ok := s.armsOf(x.Kids[0])
	for _, arm := range x.Kids[1:] {
		ok = ok && arm.Op == api.XArm && s.operators[api.XArm].isShapeOf(arm) && s.arm(a, arm.N, arm.M, func() bool {
			// The first result determines the type of the others.
			t, ok := s.typeOf(arm.Kids[0], want)
			want = t
			return ok
		})
	}
	return want, ok && a.areComplete()
}

func (s *scope) conditional(x api.Expr, want api.Type) (api.Type, bool) {
	if !s.is(x.Kids[0], basic(api.TyBool)) {
		return api.Type{}, false
	}
	t, ok := s.typeOf(x.Kids[1], want)
	return t, ok && s.is(x.Kids[2], t)
}

func (s *scope) concatenation(x api.Expr, want api.Type) (api.Type, bool) {
	if want.Kind != 0 && !isJoinable(want) {
		return api.Type{}, false
	}
	t, ok := s.typeOf(x.Kids[0], want)
	return t, ok && isJoinable(t) && s.is(x.Kids[1], t)
}

func (s *scope) let(x api.Expr, want api.Type) (api.Type, bool) {
	t, ok := s.has(x.Kids[0])
	if !ok || !s.bind(x.N, t) {
		return api.Type{}, false
	}
	t, ok = s.typeOf(x.Kids[1], want)
	s.free(x.N)
	return t, ok
}

func (s *scope) call(x api.Expr, _ api.Type) (api.Type, bool) {
	if !isIndex(x.N, len(s.Funs)) {
		return api.Type{}, false
	}
	f := s.Funs[x.N]
	return f.Result, s.fill(x.Kids, f.Params)
}

func (s *scope) closure(x api.Expr, _ api.Type) (api.Type, bool) {
	if !isIndex(x.N, len(s.Funs)) || len(x.Kids) > len(s.Funs[x.N].Params) {
		return api.Type{}, false
	}
	f, captured := s.Funs[x.N], len(x.Kids)
	return functionType(f.Params[captured:], f.Result), s.fill(x.Kids, f.Params[:captured])
}

func (s *scope) application(x api.Expr, _ api.Type) (api.Type, bool) {
	if len(x.Kids) == 0 {
		return api.Type{}, false
	}
	t, ok := s.has(x.Kids[0])
	if !ok || t.Kind != api.TyFun {
		return api.Type{}, false
	}
	last := len(t.Args) - 1
	return t.Args[last], s.are(x.Kids[1:], t.Args[:last]...)
}

func (s *scope) primitive(x api.Expr, want api.Type) (api.Type, bool) {
	integer, text := basic(api.TyInt), basic(api.TyText)
	switch x.N {
	case api.PLen, api.PAt, api.PPut, api.PSlice:
		return s.listPrimitive(x, want)
	case api.PSize:
		return integer, s.are(x.Kids, text)
	case api.PSub:
		return text, s.are(x.Kids, text, integer, integer)
	case api.PShow:
		return text, s.are(x.Kids, integer)
	}
	return api.Type{}, false
}

// listPrimitive returns the type of a primitive function whose first argument is a list.
func (s *scope) listPrimitive(x api.Expr, want api.Type) (api.Type, bool) {
	if len(x.Kids) == 0 {
		return api.Type{}, false
	}
	returnsList := x.N == api.PPut || x.N == api.PSlice
	if !returnsList || want.Kind != api.TyList {
		want = api.Type{}
	}
	list, ok := s.typeOf(x.Kids[0], want)
	if !ok || list.Kind != api.TyList {
		return api.Type{}, false
	}
	integer, element, others := basic(api.TyInt), list.Args[0], x.Kids[1:]
	switch x.N {
	case api.PLen:
		return integer, s.are(others)
	case api.PAt:
		return element, s.are(others, integer)
	case api.PPut:
		return list, s.are(others, integer, element)
	}
	return list, s.are(others, integer, integer)
}
