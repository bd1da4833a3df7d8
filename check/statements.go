package check

import (
	"slices"

	"retroact/api"
	"retroact/syntax"
	"retroact/types"
)

func (s *scope) block(n api.Node) []api.Stmt {
	outer := len(s.locals)
	var l []api.Stmt
	for _, kid := range n.Kids {
		l = append(l, s.stmt(kid))
	}
	s.leave(outer)
	return l
}

func (s *scope) stmt(n api.Node) api.Stmt {
	switch n.Kind {
	case syntax.KSLet:
		x, t := s.inferred(n.Kids[0])
		return api.Stmt{Op: api.SLet, N: s.bind(n.Text, t), Xs: []api.Expr{x}}
	case syntax.KSSet:
		return s.set(n)
	case syntax.KSIf:
		return s.ifStmt(n)
	case syntax.KSMatch:
		return s.matchStmt(n)
	case syntax.KSFor:
		return s.loop(n)
	case syntax.KSSend:
		return s.send(n)
	case syntax.KSAfter:
		ticks := s.checked(n.Kids[0], basic(api.TyInt))
		x := s.send(n.Kids[1])
		return api.Stmt{Op: api.SAfter, S: x.S, Xs: append([]api.Expr{ticks}, x.Xs...)}
	case syntax.KSSpawn:
		return s.spawn(n)
	case syntax.KSDo:
		return s.do(n)
	case syntax.KSFail:
		return api.Stmt{Op: api.SFail, Xs: []api.Expr{s.checked(n.Kids[0], basic(api.TyText))}}
	}
	return api.Stmt{Op: api.SStop}
}

func (s *scope) set(n api.Node) api.Stmt {
	k := slices.IndexFunc(s.vars, func(v api.Var) bool { return v.Name == n.Text })
	if k < 0 {
		fail(api.ErrName, n)
	}
	return api.Stmt{Op: api.SSet, N: k, Xs: []api.Expr{s.checked(n.Kids[0], s.vars[k].Type)}}
}

func (s *scope) ifStmt(n api.Node) api.Stmt {
	x := api.Stmt{Op: api.SIf, Xs: []api.Expr{s.checked(n.Kids[0], basic(api.TyBool))}}
	x.Then = s.block(n.Kids[1])
	if len(n.Kids) > 2 {
		x.Else = s.block(n.Kids[2])
	}
	return x
}

func (s *scope) loop(n api.Node) api.Stmt {
	x, t := s.inferred(n.Kids[0])
	if t.Kind != api.TyList {
		fail(api.ErrType, n.Kids[0])
	}
	slot := s.bind(n.Text, t.Args[0])
	then := s.block(n.Kids[1])
	s.leave(slot)
	return api.Stmt{Op: api.SFor, N: slot, Xs: []api.Expr{x}, Then: then}
}

func (s *scope) send(n api.Node) api.Stmt {
	x, t := s.inferred(n.Kids[0])
	if t.Kind != api.TyRef {
		fail(api.ErrType, n.Kids[0])
	}
	h, ok := s.handlerOf(t.Name, n.Text)
	if !ok {
		fail(api.ErrName, n)
	}
	args := s.arguments(n, n.Kids[1:], typesOf(h.Params))
	return api.Stmt{Op: api.SSend, S: n.Text, Xs: append([]api.Expr{x}, args...)}
}

func (s *scope) spawn(n api.Node) api.Stmt {
	a := s.actorOf(n)
	x := api.Stmt{Op: api.SSpawn, N: -1, M: n.N, S: n.Text}
	// N is 1 if the last kid is the node.
	x.Xs = s.arguments(n, n.Kids[1:len(n.Kids)-n.N], typesOf(a.Params))
	if n.N == 1 {
		node := s.checked(last(n), basic(api.TyInt))
		x.Xs = append([]api.Expr{node}, x.Xs...)
	}
	if bind := n.Kids[0]; bind.Text != "_" {
		x.N = s.bind(bind.Text, api.Type{Kind: api.TyRef, Name: n.Text})
	}
	return x
}

func (s *scope) do(n api.Node) api.Stmt {
	k := slices.IndexFunc(s.out.Prog.Effects, func(f api.Effect) bool { return f.Name == n.Text })
	if k < 0 {
		fail(api.ErrName, n)
	}
	effect := s.out.Prog.Effects[k]
	message := last(n)
	x := api.Stmt{Op: api.SDo, S: n.Text, T: message.Text}
	x.Xs = s.arguments(n, n.Kids[:len(n.Kids)-1], typesOf(effect.Params))
	h, ok := s.handlerOf(s.actor, message.Text)
	if !ok {
		fail(api.ErrName, message)
	}
	if len(h.Params) != 1 || !types.Same(h.Params[0].Type, effect.Answer) {
		fail(api.ErrType, message)
	}
	return x
}
