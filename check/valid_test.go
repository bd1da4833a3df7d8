package check_test

import (
	"fmt"
	"slices"

	"retroact/api"
	"retroact/types"
)

// invalid returns why a program is not valid by the definitions of shared/doc/11-core.md, or nothing.
func invalid(p api.Prog) (problem string) {
	defer func() {
		if x := recover(); x != nil {
			problem = fmt.Sprint(x)
		}
	}()
	v := validator{p}
	for _, d := range p.Types {
		for _, c := range d.Ctors {
			v.fields(c.Fields, true, d.Record)
		}
	}
	for _, f := range p.Effects {
		v.fields(f.Params, true, true)
		v.declared(f.Answer, true)
	}
	seen := map[string]bool{}
	for _, f := range p.Funs {
		must(f.Name == "" || !seen[f.Name], "two functions ", f.Name)
		seen[f.Name] = true
		v.function(f)
	}
	for _, a := range p.Actors {
		v.actor(a)
	}
	return ""
}

func must(ok bool, message ...any) {
	if !ok {
		panic(fmt.Sprint(message...))
	}
}

type validator struct{ p api.Prog }

func (v validator) declared(t api.Type, stored bool) {
	must(types.Right(v.p, t) && (!stored || types.Storable(t)), "type ", t)
}

func (v validator) fields(l []api.Field, stored, withNames bool) {
	seen := map[string]bool{}
	for _, f := range l {
		v.declared(f.Type, stored)
		must((f.Name == "") != withNames && (!seen[f.Name] || !withNames), "name ", f.Name)
		must(f.Name == "" || 'a' <= f.Name[0] && f.Name[0] <= 'z', "name ", f.Name)
		must(f.Name != "self" || !stored, "self")
		seen[f.Name] = true
	}
}

func (v validator) function(f api.Fun) {
	v.fields(f.Params, false, true)
	v.declared(f.Result, false)
	v.room(f.Params, f.Slots).is(f.Body, f.Result)
}

func (v validator) actor(a api.Actor) {
	v.fields(a.Params, true, true)
	inits := v.room(a.Params, a.Slots)
	inits.actor = a.Name
	for _, x := range a.Vars {
		v.declared(x.Type, true)
		inits.is(x.Init, x.Type)
	}
	for _, h := range a.On {
		v.fields(h.Params, true, true)
		r := v.room(h.Params, h.Slots)
		r.actor, r.vars = a.Name, a.Vars
		r.block(h.Body)
	}
}

// room is a scope of chapter 11: the types of the slots, which have no kind if they are not bound.
type room struct {
	validator
	slots []api.Type
	actor string
	vars  []api.Var
}

func (v validator) room(params []api.Field, slots int) *room {
	must(len(params) <= slots && slots <= 32768, "slots ", slots)
	r := &room{validator: v, slots: make([]api.Type, slots)}
	for k, f := range params {
		r.slots[k] = f.Type
	}
	return r
}

func (r *room) bind(slot int, t api.Type) {
	must(slot >= 0 && slot < len(r.slots) && r.slots[slot].Kind == 0, "binding of slot ", slot)
	r.slots[slot] = t
}

func (r *room) free(slots ...int) {
	for _, slot := range slots {
		r.slots[slot] = api.Type{}
	}
}

func (r *room) is(x api.Expr, want api.Type) { r.typeOf(x, want) }

func (r *room) has(x api.Expr) api.Type { return r.typeOf(x, api.Type{}) }

func (r *room) typeOf(x api.Expr, want api.Type) api.Type {
	t := r.rule(x, want)
	must(want.Kind == 0 || types.Same(t, want), "type ", t, " instead of ", want, " of ", x)
	return t
}

func (r *room) args(l []api.Expr, params ...api.Type) {
	must(len(l) == len(params), "arguments ", l)
	for k, x := range l {
		r.is(x, params[k])
	}
}

func (r *room) decl(t api.Type, isRecord bool) api.Decl {
	k, ok := types.Find(r.p, t.Name)
	must(ok && t.Kind == api.TyNamed && r.p.Types[k].Record == isRecord, "declared type ", t)
	return r.p.Types[k]
}

func kind(k int, args ...api.Type) api.Type { return api.Type{Kind: k, Args: args} }

func typesOf(l []api.Field) []api.Type {
	var all []api.Type
	for _, f := range l {
		all = append(all, f.Type)
	}
	return all
}

// plain checks that an expression has only the fields that its operator uses, and the number of kids if that is not negative.
func plain(x api.Expr, withN, withS bool, kids int) {
	must((withN || x.N == 0) && x.M == 0 && (withS || x.S == "") && (kids < 0 || len(x.Kids) == kids), "fields of ", x)
}

func (r *room) rule(x api.Expr, want api.Type) api.Type {
	number, truth, text := kind(api.TyInt), kind(api.TyBool), kind(api.TyText)
	switch x.Op {
	case api.XUnit:
		plain(x, false, false, 0)
		return kind(api.TyUnit)
	case api.XBool:
		plain(x, true, false, 0)
		must(x.N == 0 || x.N == 1, "bool ", x.N)
		return truth
	case api.XInt:
		plain(x, true, false, 0)
		must(-api.MaxNum <= x.N && x.N <= api.MaxNum, "int ", x.N)
		return number
	case api.XText:
		plain(x, false, true, 0)
		must(len(x.S) <= api.MaxText, "text")
		return text
	case api.XLocal:
		plain(x, true, false, 0)
		must(0 <= x.N && x.N < len(r.slots) && r.slots[x.N].Kind != 0, "local ", x.N)
		return r.slots[x.N]
	case api.XState:
		plain(x, true, false, 0)
		must(0 <= x.N && x.N < len(r.vars), "state ", x.N)
		return r.vars[x.N].Type
	case api.XSelf:
		plain(x, false, false, 0)
		must(r.actor != "", "self")
		return api.Type{Kind: api.TyRef, Name: r.actor}
	case api.XAnd, api.XOr, api.XNot:
		plain(x, false, false, -1)
		r.args(x.Kids, []api.Type{truth, truth}[len(x.Kids)%2:]...)
		must((len(x.Kids) == 1) == (x.Op == api.XNot), "operands of ", x)
		return truth
	case api.XNeg, api.XAdd, api.XSub, api.XMul, api.XDiv, api.XMod:
		plain(x, false, false, -1)
		r.args(x.Kids, []api.Type{number, number}[len(x.Kids)%2:]...)
		must((len(x.Kids) == 1) == (x.Op == api.XNeg), "operands of ", x)
		return number
	case api.XEq, api.XNe, api.XLt, api.XLe, api.XGt, api.XGe:
		plain(x, false, false, 2)
		t := r.has(x.Kids[0])
		ordered := t.Kind == api.TyInt || t.Kind == api.TyText
		must(types.Storable(t) && (x.Op == api.XEq || x.Op == api.XNe || ordered), "comparison ", x)
		r.is(x.Kids[1], t)
		return truth
	case api.XIf:
		plain(x, false, false, 3)
		r.is(x.Kids[0], truth)
		t := r.typeOf(x.Kids[1], want)
		r.is(x.Kids[2], t)
		return t
	case api.XLet:
		plain(x, true, false, 2)
		r.bind(x.N, r.has(x.Kids[0]))
		defer r.free(x.N)
		return r.typeOf(x.Kids[1], want)
	case api.XPrim:
		plain(x, true, false, -1)
		return r.primitive(x, want)
	}
	return r.compound(x, want)
}

func (r *room) compound(x api.Expr, want api.Type) api.Type {
	t := api.Type{Kind: api.TyNamed, Name: x.S}
	switch x.Op {
	case api.XList:
		plain(x, false, false, -1)
		must(want.Kind == api.TyList || want.Kind == 0 && len(x.Kids) > 0, "list ", x, " as ", want)
		element := api.Type{}
		if want.Kind != 0 {
			element = want.Args[0]
		}
		for _, kid := range x.Kids {
			element = r.typeOf(kid, element)
		}
		return kind(api.TyList, element)
	case api.XCat:
		plain(x, false, false, 2)
		t := r.typeOf(x.Kids[0], want)
		must(t.Kind == api.TyText || t.Kind == api.TyList, "concatenation ", x)
		r.is(x.Kids[1], t)
		return t
	case api.XRec:
		plain(x, false, true, -1)
		r.args(x.Kids, typesOf(r.decl(t, true).Ctors[0].Fields)...)
		return t
	case api.XCtor:
		plain(x, true, true, -1)
		ctors := r.decl(t, false).Ctors
		must(0 <= x.N && x.N < len(ctors), "constructor ", x.N)
		r.args(x.Kids, typesOf(ctors[x.N].Fields)...)
		return t
	case api.XGet, api.XWith:
		plain(x, true, false, x.Op-api.XGet+1)
		if x.Op == api.XGet {
			want = api.Type{}
		}
		t := r.typeOf(x.Kids[0], want)
		fields := r.decl(t, true).Ctors[0].Fields
		must(0 <= x.N && x.N < len(fields), "field ", x.N)
		if x.Op == api.XGet {
			return fields[x.N].Type
		}
		r.is(x.Kids[1], fields[x.N].Type)
		return t
	case api.XCall, api.XFun:
		plain(x, true, false, -1)
		must(0 <= x.N && x.N < len(r.p.Funs), "function ", x.N)
		f := r.p.Funs[x.N]
		must(len(x.Kids) <= len(f.Params) && (x.Op == api.XFun || len(x.Kids) == len(f.Params)), "arguments of ", x)
		r.args(x.Kids, typesOf(f.Params[:len(x.Kids)])...)
		if x.Op == api.XCall {
			return f.Result
		}
		return kind(api.TyFun, append(typesOf(f.Params[len(x.Kids):]), f.Result)...)
	case api.XApply:
		plain(x, false, false, -1)
		must(len(x.Kids) > 0, "application")
		t := r.has(x.Kids[0])
		must(t.Kind == api.TyFun, "application of ", t)
		r.args(x.Kids[1:], t.Args[:len(t.Args)-1]...)
		return t.Args[len(t.Args)-1]
	case api.XMatch:
		plain(x, false, false, -1)
		must(len(x.Kids) > 1, "match without arms")
		ctors := r.decl(r.has(x.Kids[0]), false).Ctors
		var seen []int
		for _, arm := range x.Kids[1:] {
			must(arm.Op == api.XArm && arm.S == "" && len(arm.Kids) == 1, "arm ", arm)
			slots := r.arm(arm.N, arm.M, ctors, seen)
			want = r.typeOf(arm.Kids[0], want)
			r.free(slots...)
			seen = append(seen, arm.N)
		}
		complete(seen, ctors)
		return want
	}
	panic(fmt.Sprint("operator ", x.Op))
}

// arm binds the slots of an arm.
func (r *room) arm(n, m int, ctors []api.Ctor, seen []int) []int {
	must(-1 <= n && n < len(ctors) && 0 <= m && m <= len(r.slots) && !slices.Contains(seen, n) && !slices.Contains(seen, -1), "arm ", n, "/", m)
	var slots []int
	if n >= 0 {
		for k, f := range ctors[n].Fields {
			r.bind(m+k, f.Type)
			slots = append(slots, m+k)
		}
	}
	return slots
}

func complete(seen []int, ctors []api.Ctor) {
	must(slices.Contains(seen, -1) || len(seen) == len(ctors), "match is not complete")
}

func (r *room) primitive(x api.Expr, want api.Type) api.Type {
	number, text := kind(api.TyInt), kind(api.TyText)
	must(len(x.Kids) > 0, "no arguments")
	if want.Kind != api.TyList || x.N != api.PPut && x.N != api.PSlice {
		want = api.Type{}
	}
	var list, element api.Type
	if x.N <= api.PSlice {
		list = r.typeOf(x.Kids[0], want)
		must(list.Kind == api.TyList, "list ", x)
		element = list.Args[0]
	}
	switch x.N {
	case api.PLen:
		r.args(x.Kids[1:])
		return number
	case api.PAt:
		r.args(x.Kids[1:], number)
		return element
	case api.PPut:
		r.args(x.Kids[1:], number, element)
		return list
	case api.PSlice:
		r.args(x.Kids[1:], number, number)
		return list
	case api.PSize:
		r.args(x.Kids, text)
		return number
	case api.PSub:
		r.args(x.Kids, text, number, number)
		return text
	case api.PShow:
		r.args(x.Kids, number)
		return text
	}
	panic(fmt.Sprint("primitive function ", x.N))
}

// block checks statements, whose bindings end with them.
func (r *room) block(l []api.Stmt) {
	var bound []int
	for _, x := range l {
		if t := r.stmt(x); t.Kind != 0 {
			r.bind(x.N, t)
			bound = append(bound, x.N)
		}
	}
	r.free(bound...)
}

// only checks that a statement has only the fields that its operator uses, and the number of expressions if that is not negative.
func only(x api.Stmt, withN, withM bool, xs int) {
	must((withN || x.N == 0) && (withM || x.M == 0) && (xs < 0 || len(x.Xs) == xs), "fields of ", x)
	must(x.S == "" || x.Op >= api.SSend && x.Op <= api.SDo, "S of ", x)
	must(x.T == "" || x.Op == api.SDo, "T of ", x)
	must(len(x.Then) == 0 || x.Op == api.SIf || x.Op == api.SFor || x.Op == api.SArm, "Then of ", x)
	must(len(x.Else) == 0 || x.Op == api.SIf, "Else of ", x)
	must(len(x.Arms) == 0 || x.Op == api.SMatch, "Arms of ", x)
}

// stmt checks a statement, and returns the type of the slot that it binds for those that follow.
func (r *room) stmt(x api.Stmt) (bound api.Type) {
	switch x.Op {
	case api.SLet:
		only(x, true, false, 1)
		return r.has(x.Xs[0])
	case api.SSet:
		only(x, true, false, 1)
		must(0 <= x.N && x.N < len(r.vars), "state ", x.N)
		r.is(x.Xs[0], r.vars[x.N].Type)
	case api.SIf:
		only(x, false, false, 1)
		r.is(x.Xs[0], kind(api.TyBool))
		r.block(x.Then)
		r.block(x.Else)
	case api.SMatch:
		only(x, false, false, 1)
		must(len(x.Arms) > 0, "match without arms")
		ctors := r.decl(r.has(x.Xs[0]), false).Ctors
		var seen []int
		for _, arm := range x.Arms {
			only(arm, true, true, 0)
			must(arm.Op == api.SArm, "arm ", arm)
			slots := r.arm(arm.N, arm.M, ctors, seen)
			r.block(arm.Then)
			r.free(slots...)
			seen = append(seen, arm.N)
		}
		complete(seen, ctors)
	case api.SFor:
		only(x, true, false, 1)
		t := r.has(x.Xs[0])
		must(t.Kind == api.TyList, "for ", x)
		r.bind(x.N, t.Args[0])
		r.block(x.Then)
		r.free(x.N)
	case api.SSend, api.SAfter:
		only(x, false, false, -1)
		if x.Op == api.SAfter {
			r.is(x.Xs[0], kind(api.TyInt))
			x.Xs = x.Xs[1:]
		}
		t := r.has(x.Xs[0])
		must(t.Kind == api.TyRef, "receiver ", x)
		r.args(x.Xs[1:], typesOf(r.handler(t.Name, x.S).Params)...)
	case api.SSpawn:
		only(x, true, true, -1)
		must(x.M == 0 || x.M == 1, "M of ", x)
		if x.M == 1 {
			r.is(x.Xs[0], kind(api.TyInt))
		}
		k, ok := types.Actor(r.p, x.S)
		must(ok, "actor ", x.S)
		r.args(x.Xs[x.M:], typesOf(r.p.Actors[k].Params)...)
		if x.N != -1 {
			return api.Type{Kind: api.TyRef, Name: x.S}
		}
	case api.SDo:
		only(x, false, false, -1)
		k := slices.IndexFunc(r.p.Effects, func(f api.Effect) bool { return f.Name == x.S })
		must(k >= 0, "effect ", x.S)
		r.args(x.Xs, typesOf(r.p.Effects[k].Params)...)
		h := r.handler(r.actor, x.T)
		must(len(h.Params) == 1 && types.Same(h.Params[0].Type, r.p.Effects[k].Answer), "handler ", x.T)
	case api.SStop:
		only(x, false, false, 0)
	case api.SFail:
		only(x, false, false, 1)
		r.is(x.Xs[0], kind(api.TyText))
	default:
		panic(fmt.Sprint("statement ", x.Op))
	}
	return bound
}

func (r *room) handler(actor, message string) api.Handler {
	k, ok := types.Actor(r.p, actor)
	must(ok, "actor ", actor)
	j := slices.IndexFunc(r.p.Actors[k].On, func(h api.Handler) bool { return h.Msg == message })
	must(j >= 0, "message ", message)
	return r.p.Actors[k].On[j]
}
