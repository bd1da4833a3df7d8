package core

import (
	"retroact/api"
	"retroact/code"
)

// maxDepth bounds how deep lists may lie in lists, so that no bytes exhaust the stack. It is twice the depth up to which DOC.md promises anything.
const maxDepth = 1 << 17

// reader parses what a writer writes. Once its error flag is set, what it returns is of no use.
type reader struct {
	*code.Reader
	depth int
}

// failed reports whether the error flag is set.
func (r *reader) failed() bool { return r.Left() == 0 && !r.Done() }

// fail sets the error flag.
func (r *reader) fail() { r.Take(-1) }

// readList ends at an error, whatever count it has read. Each element takes a byte at least.
func readList[T any](r *reader, one func() T) []T {
	r.depth++
	if r.depth > maxDepth {
		r.fail()
	}
	var l []T
	for count := r.Num(); len(l) < count && !r.failed(); {
		l = append(l, one())
	}
	r.depth--
	return l
}

func (r *reader) program() api.Prog {
	return api.Prog{Types: readList(r, r.decl), Effects: readList(r, r.effect), Funs: readList(r, r.fun), Actors: readList(r, r.actor)}
}

func (r *reader) decl() api.Decl {
	return api.Decl{Name: r.Text(), Record: r.Num() == 1, Ctors: readList(r, r.ctor)}
}

func (r *reader) ctor() api.Ctor { return api.Ctor{Name: r.Text(), Fields: r.fields()} }

func (r *reader) fields() []api.Field { return readList(r, r.field) }

func (r *reader) field() api.Field { return api.Field{Name: r.Text(), Type: r.typ()} }

func (r *reader) typ() api.Type {
	return api.Type{Kind: r.Num(), Name: r.Text(), Args: readList(r, r.typ)}
}

func (r *reader) effect() api.Effect {
	return api.Effect{Name: r.Text(), Params: r.fields(), Answer: r.typ()}
}

func (r *reader) fun() api.Fun {
	return api.Fun{Name: r.Text(), Params: r.fields(), Result: r.typ(), Slots: r.Num(), Body: r.expr()}
}

func (r *reader) actor() api.Actor {
	return api.Actor{
		Name: r.Text(), Params: r.fields(), Slots: r.Num(),
		Vars: readList(r, r.variable), On: readList(r, r.handler),
		Policy: r.Num(), Most: r.Num(),
	}
}

func (r *reader) variable() api.Var {
	return api.Var{Name: r.Text(), Type: r.typ(), Init: r.expr()}
}

func (r *reader) handler() api.Handler {
	return api.Handler{Msg: r.Text(), Params: r.fields(), Slots: r.Num(), Body: r.block()}
}

func (r *reader) block() []api.Stmt { return readList(r, r.stmt) }

func (r *reader) stmt() api.Stmt {
	return api.Stmt{
		Op: r.Num(), N: r.Int(), M: r.Int(), S: r.Text(), T: r.Text(),
		Xs: readList(r, r.expr), Then: r.block(), Else: r.block(), Arms: r.block(),
	}
}

func (r *reader) expr() api.Expr {
	return api.Expr{Op: r.Num(), N: r.Int(), M: r.Int(), S: r.Text(), Kids: readList(r, r.expr)}
}
