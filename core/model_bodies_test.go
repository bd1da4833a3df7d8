package core_test

import (
	"slices"

	"retroact/api"
	"retroact/types"
)

// is, has and typeOf take the type that is expected, none, or perhaps one, which are the elements of want.
func (s place) is(x api.Expr, t api.Type) { s.typeOf(x, []api.Type{t}) }

func (s place) has(x api.Expr) api.Type { return s.typeOf(x, nil) }

func (s place) all(l []api.Expr, want []api.Type) {
	must(len(l) == len(want), "the number of ", l)
	for k, x := range l {
		s.is(x, want[k])
	}
}

func (s place) typeOf(x api.Expr, want []api.Type) api.Type {
	t := s.row(x, want)
	must(len(want) == 0 || types.Same(t, want[0]), "the type ", t, " instead of ", want)
	return t
}

// zero checks that all fields but some are zero: of the letters nms those that are given, and Kids if their number is not negative.
func zero(x api.Expr, but string, kids int) {
	for _, f := range []struct {
		name   rune
		isZero bool
	}{{'n', x.N == 0}, {'m', x.M == 0}, {'s', x.S == ""}} {
		must(f.isZero || slices.Contains([]rune(but), f.name), "field ", string(f.name), " of ", x)
	}
	must(kids < 0 || len(x.Kids) == kids, "Kids of ", x)
}

// fixedRows are the operators whose operands and result have fixed types, which are given in letters, the result last: i is an int, b a bool, t a text.
func fixedRows() map[int]string {
	return map[int]string{
		api.XUnit: "u", api.XAnd: "bbb", api.XOr: "bbb", api.XNot: "bb", api.XNeg: "ii", api.XAdd: "iii", api.XSub: "iii", api.XMul: "iii", api.XDiv: "iii", api.XMod: "iii",
	}
}

func letters(s string) []api.Type {
	var l []api.Type
	for _, c := range s {
		l = append(l, api.Type{Kind: map[rune]int{'u': api.TyUnit, 'b': api.TyBool, 'i': api.TyInt, 't': api.TyText}[c]})
	}
	return l
}

func (s place) row(x api.Expr, want []api.Type) api.Type {
	if form, ok := fixedRows()[x.Op]; ok {
		zero(x, "", len(form)-1)
		l := letters(form)
		s.all(x.Kids, l[:len(l)-1])
		return l[len(l)-1]
	}
	switch x.Op {
	case api.XBool, api.XInt:
		zero(x, "n", 0)
		must(x.Op == api.XInt && x.N >= -1<<53 && x.N <= 1<<53 || x.Op == api.XBool && x.N>>1 == 0, "constant ", x.N)
		return api.Type{Kind: x.Op}
	case api.XText:
		zero(x, "s", 0)
		must(len(x.S) <= 4096, "text")
		return api.Type{Kind: api.TyText}
	case api.XLocal:
		zero(x, "n", 0)
		k := slices.IndexFunc(s.bound, func(b binding) bool { return b.slot == x.N })
		must(k >= 0, "slot ", x.N, " is not bound")
		return s.bound[k].t
	case api.XState:
		zero(x, "n", 0)
		must(x.N >= 0 && x.N < len(s.actor.Vars), "variable ", x.N)
		return s.actor.Vars[x.N].Type
	case api.XSelf:
		zero(x, "", 0)
		must(len(s.self) == 1, "self")
		return s.self[0]
	case api.XEq, api.XNe, api.XLt, api.XLe, api.XGt, api.XGe:
		zero(x, "", 2)
		t := s.has(x.Kids[0])
		must(types.Storable(t) && x.Op < api.XLt || t.Kind == api.TyInt || t.Kind == api.TyText, "comparison of ", t)
		s.is(x.Kids[1], t)
		return api.Type{Kind: api.TyBool}
	case api.XIf:
		zero(x, "", 3)
		s.is(x.Kids[0], api.Type{Kind: api.TyBool})
		t := s.typeOf(x.Kids[1], want)
		s.is(x.Kids[2], t)
		return t
	case api.XLet:
		zero(x, "n", 2)
		return s.with(x.N, s.has(x.Kids[0])).typeOf(x.Kids[1], want)
	case api.XList, api.XCat, api.XPrim:
		return s.sequence(x, want)
	}
	return s.compound(x, want)
}

func (s place) sequence(x api.Expr, want []api.Type) api.Type {
	switch x.Op {
	case api.XList:
		zero(x, "", -1)
		if len(want) == 0 {
			must(len(x.Kids) > 0, "an empty list")
			want = []api.Type{{Kind: api.TyList, Args: []api.Type{s.has(x.Kids[0])}}}
		}
		must(want[0].Kind == api.TyList, "a list as ", want)
		for _, kid := range x.Kids {
			s.is(kid, want[0].Args[0])
		}
		return want[0]
	case api.XCat:
		zero(x, "", 2)
		if len(want) == 0 {
			want = []api.Type{s.has(x.Kids[0])}
		}
		must(want[0].Kind == api.TyList || want[0].Kind == api.TyText, "concatenation of ", want)
		s.is(x.Kids[0], want[0])
		s.is(x.Kids[1], want[0])
		return want[0]
	}
	zero(x, "n", -1)
	if form, ok := map[int]string{api.PSize: "ti", api.PSub: "tiit", api.PShow: "it"}[x.N]; ok {
		l := letters(form)
		s.all(x.Kids, l[:len(l)-1])
		return l[len(l)-1]
	}
	must(x.N >= api.PLen && x.N <= api.PSlice && len(x.Kids) > 0, "primitive function ", x)
	if x.N < api.PPut || len(want) == 1 && want[0].Kind != api.TyList {
		want = nil
	}
	list := s.typeOf(x.Kids[0], want)
	must(list.Kind == api.TyList, "list argument ", x)
	integer, element := api.Type{Kind: api.TyInt}, list.Args[0]
	s.all(x.Kids[1:], [][]api.Type{api.PLen: {}, api.PAt: {integer}, api.PPut: {integer, element}, api.PSlice: {integer, integer}}[x.N])
	return []api.Type{api.PLen: integer, api.PAt: element, api.PPut: list, api.PSlice: list}[x.N]
}

// decl returns the declaration of a type, which must be a record or a variant.
func (m model) decl(t api.Type, isRecord bool) api.Decl {
	k := slices.IndexFunc(m.p.Types, func(d api.Decl) bool { return d.Name == t.Name })
	must(t.Kind == api.TyNamed && k >= 0 && m.p.Types[k].Record == isRecord, "the type ", t)
	return m.p.Types[k]
}

func (s place) compound(x api.Expr, want []api.Type) api.Type {
	switch x.Op {
	case api.XRec, api.XCtor:
		isRecord := x.Op == api.XRec
		zero(x, map[bool]string{true: "s", false: "ns"}[isRecord], -1)
		t := api.Type{Kind: api.TyNamed, Name: x.S}
		ctors := s.decl(t, isRecord).Ctors
		must(x.N >= 0 && x.N < len(ctors), "constructor ", x.N)
		s.all(x.Kids, typesOf(ctors[x.N].Fields))
		return t
	case api.XGet, api.XWith:
		zero(x, "n", map[int]int{api.XGet: 1, api.XWith: 2}[x.Op])
		if x.Op == api.XGet {
			want = nil
		}
		t := s.typeOf(x.Kids[0], want)
		l := s.decl(t, true).Ctors[0].Fields
		must(x.N >= 0 && x.N < len(l), "field ", x.N)
		if x.Op == api.XGet {
			return l[x.N].Type
		}
		s.is(x.Kids[1], l[x.N].Type)
		return t
	case api.XCall, api.XFun:
		zero(x, "n", -1)
		must(x.N >= 0 && x.N < len(s.p.Funs), "function ", x.N)
		f := s.p.Funs[x.N]
		must(len(x.Kids) == len(f.Params) || len(x.Kids) < len(f.Params) && x.Op == api.XFun, "arguments of ", x)
		s.all(x.Kids, typesOf(f.Params)[:len(x.Kids)])
		if x.Op == api.XCall {
			return f.Result
		}
		return api.Type{Kind: api.TyFun, Args: append(typesOf(f.Params)[len(x.Kids):], f.Result)}
	case api.XApply:
		zero(x, "", -1)
		must(len(x.Kids) > 0, "application")
		t := s.has(x.Kids[0])
		must(t.Kind == api.TyFun, "application of ", t)
		s.all(x.Kids[1:], t.Args[:len(t.Args)-1])
		return t.Args[len(t.Args)-1]
	case api.XMatch:
		zero(x, "", -1)
		must(len(x.Kids) > 0, "match of nothing")
		var l []arm
		for _, kid := range x.Kids[1:] {
			must(kid.Op == api.XArm, "arm ", kid)
			zero(kid, "nm", 1)
			l = append(l, arm{kid.N, kid.M})
		}
		for k, inner := range s.arms(s.has(x.Kids[0]), l) {
			want = []api.Type{inner.typeOf(x.Kids[k+1].Kids[0], want)}
		}
		return want[0]
	}
	must(false, "operator ", x.Op)
	return api.Type{}
}

// arm is the N and the M of an arm.
type arm struct{ n, m int }

// arms returns the scopes of the arms of a match.
func (s place) arms(t api.Type, l []arm) []place {
	ctors := s.decl(t, false).Ctors
	var scopes []place
	missing := map[int]bool{}
	for k := range ctors {
		missing[k] = true
	}
	for _, a := range l {
		must(a.m >= 0 && a.m <= s.slots, "slot ", a.m)
		if a.n == -1 {
			must(missing != nil, "an arm behind an arm for all")
			missing = nil
			scopes = append(scopes, s)
			continue
		}
		must(missing[a.n], "arm for ", a.n)
		delete(missing, a.n)
		scopes = append(scopes, s.withAll(a.m, typesOf(ctors[a.n].Fields)))
	}
	must(len(missing) == 0 && len(l) > 0, "not all constructors have arms")
	return scopes
}

func (s place) block(l []api.Stmt) {
	for _, x := range l {
		s = s.statement(x)
	}
}

// unused checks that all fields of a statement but some are zero, and the number of Xs, if that is not negative.
func unused(x api.Stmt, but string, xs int) {
	for _, f := range []struct {
		name   rune
		isZero bool
	}{{'n', x.N == 0}, {'m', x.M == 0}, {'s', x.S == ""}, {'t', x.T == ""}, {'T', len(x.Then) == 0}, {'E', len(x.Else) == 0}, {'A', len(x.Arms) == 0}} {
		must(f.isZero || slices.Contains([]rune(but), f.name), "field ", string(f.name), " of ", x)
	}
	must(xs < 0 || len(x.Xs) == xs, "Xs of ", x)
}

// statement returns the scope of the statements that follow.
func (s place) statement(x api.Stmt) place {
	switch x.Op {
	case api.SLet:
		unused(x, "n", 1)
		return s.with(x.N, s.has(x.Xs[0]))
	case api.SSet:
		unused(x, "n", 1)
		must(x.N >= 0 && x.N < len(s.actor.Vars), "variable ", x.N)
		s.is(x.Xs[0], s.actor.Vars[x.N].Type)
	case api.SIf:
		unused(x, "TE", 1)
		s.is(x.Xs[0], api.Type{Kind: api.TyBool})
		s.block(x.Then)
		s.block(x.Else)
	case api.SMatch:
		unused(x, "A", 1)
		var l []arm
		for _, a := range x.Arms {
			must(a.Op == api.SArm, "arm ", a)
			unused(a, "nmT", 0)
			l = append(l, arm{a.N, a.M})
		}
		for k, inner := range s.arms(s.has(x.Xs[0]), l) {
			inner.block(x.Arms[k].Then)
		}
	case api.SFor:
		unused(x, "nT", 1)
		t := s.has(x.Xs[0])
		must(t.Kind == api.TyList, "for each of ", t)
		s.with(x.N, t.Args[0]).block(x.Then)
	case api.SStop:
		unused(x, "", 0)
	case api.SFail:
		unused(x, "", 1)
		s.is(x.Xs[0], api.Type{Kind: api.TyText})
	default:
		return s.output(x)
	}
	return s
}

func (s place) output(x api.Stmt) place {
	switch x.Op {
	case api.SAfter, api.SSend:
		unused(x, "s", -1)
		l := x.Xs
		if x.Op == api.SAfter {
			must(len(l) > 0, "no delay")
			s.is(l[0], api.Type{Kind: api.TyInt})
			l = l[1:]
		}
		must(len(l) > 0, "no receiver")
		to := s.has(l[0])
		must(to.Kind == api.TyRef, "receiver ", to)
		s.all(l[1:], typesOf(handlerOf(s.actorOf(to.Name), x.S).Params))
	case api.SSpawn:
		unused(x, "nms", -1)
		l := x.Xs
		if x.M != 0 {
			must(x.M == 1 && len(l) > 0, "node of ", x)
			s.is(l[0], api.Type{Kind: api.TyInt})
			l = l[1:]
		}
		s.all(l, typesOf(s.actorOf(x.S).Params))
		if x.N != -1 {
			return s.with(x.N, api.Type{Kind: api.TyRef, Name: x.S})
		}
	case api.SDo:
		unused(x, "st", -1)
		k := slices.IndexFunc(s.p.Effects, func(f api.Effect) bool { return f.Name == x.S })
		must(k >= 0, "effect ", x.S)
		s.all(x.Xs, typesOf(s.p.Effects[k].Params))
		l := handlerOf(s.actor, x.T).Params
		must(len(l) == 1 && types.Same(l[0].Type, s.p.Effects[k].Answer), "the answer of ", x.S)
	default:
		must(false, "statement ", x.Op)
	}
	return s
}

func (m model) actorOf(name string) api.Actor {
	k := slices.IndexFunc(m.p.Actors, func(a api.Actor) bool { return a.Name == name })
	must(k >= 0, "actor ", name)
	return m.p.Actors[k]
}

func handlerOf(a api.Actor, message string) api.Handler {
	k := slices.IndexFunc(a.On, func(h api.Handler) bool { return h.Msg == message })
	must(k >= 0, "handler ", message)
	return a.On[k]
}
