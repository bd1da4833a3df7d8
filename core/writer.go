package core

import (
	"strings"

	"retroact/api"
	"retroact/code"
)

// writer serializes programs and their parts.
type writer struct {
	out strings.Builder
	// function returns what is written for the index of a function.
	function func(index int) int
	// mention is called with the name of each declared type that the bytes mention, in their order.
	mention func(name string)
}

func (w *writer) num(n int)     { w.out.WriteString(code.Num(n)) }
func (w *writer) int(n int)     { w.out.WriteString(code.Int(n)) }
func (w *writer) text(s string) { w.out.WriteString(code.Text(s)) }

func writeList[T any](w *writer, l []T, one func(T)) {
	w.num(len(l))
	for _, x := range l {
		one(x)
	}
}

func (w *writer) program(p api.Prog) {
	writeList(w, p.Types, w.decl)
	writeList(w, p.Effects, w.effect)
	writeList(w, p.Funs, w.fun)
	writeList(w, p.Actors, func(a api.Actor) {
		w.actor(a)
		w.num(a.Policy)
		w.num(a.Most)
	})
}

func (w *writer) decl(d api.Decl) {
	w.text(d.Name)
	if d.Record {
		w.num(1)
	} else {
		w.num(0)
	}
	writeList(w, d.Ctors, w.ctor)
}

func (w *writer) ctor(c api.Ctor) {
	w.text(c.Name)
	w.fields(c.Fields)
}

func (w *writer) fields(l []api.Field) { writeList(w, l, w.field) }

func (w *writer) field(f api.Field) {
	w.text(f.Name)
	w.typ(f.Type)
}

func (w *writer) typ(t api.Type) {
	if t.Kind == api.TyNamed {
		w.mention(t.Name)
	}
	w.num(t.Kind)
	w.text(t.Name)
	writeList(w, t.Args, w.typ)
}

func (w *writer) effect(f api.Effect) {
	w.text(f.Name)
	w.fields(f.Params)
	w.typ(f.Answer)
}

func (w *writer) fun(f api.Fun) {
	w.text(f.Name)
	w.fields(f.Params)
	w.typ(f.Result)
	w.num(f.Slots)
	w.expr(f.Body)
}

// actor writes an actor type without its policy.
func (w *writer) actor(a api.Actor) {
	w.text(a.Name)
	w.fields(a.Params)
	w.num(a.Slots)
	writeList(w, a.Vars, w.variable)
	writeList(w, a.On, w.handler)
}

func (w *writer) variable(v api.Var) {
	w.text(v.Name)
	w.typ(v.Type)
	w.expr(v.Init)
}

func (w *writer) handler(h api.Handler) {
	w.text(h.Msg)
	w.fields(h.Params)
	w.num(h.Slots)
	w.block(h.Body)
}

func (w *writer) block(l []api.Stmt) { writeList(w, l, w.stmt) }

func (w *writer) stmt(x api.Stmt) {
	w.num(x.Op)
	w.int(x.N)
	w.int(x.M)
	w.text(x.S)
	w.text(x.T)
	writeList(w, x.Xs, w.expr)
	w.block(x.Then)
	w.block(x.Else)
	w.block(x.Arms)
}

func (w *writer) expr(x api.Expr) {
	n := x.N
	switch x.Op {
	case api.XCall, api.XFun:
		n = w.function(n)
	case api.XRec, api.XCtor:
		w.mention(x.S)
	}
	w.num(x.Op)
	w.int(n)
	w.int(x.M)
	w.text(x.S)
	writeList(w, x.Kids, w.expr)
}
