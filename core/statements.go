package core

import (
	"retroact/api"
	"retroact/types"
)

// command says which statements with an operator are valid.
type command struct {
	// uses is the set of the fields besides Xs, whose number is xs.
	uses, xs int
	// condition reports whether a statement of that shape is valid. It binds the slot that is bound for the statements that follow, if there is one. It is nil if the operator is that of no statement by itself.
	condition func(s *scope, x api.Stmt) bool
}

func (c command) isShapeOf(x api.Stmt) bool {
	used := uses(usesN, x.N != 0) | uses(usesM, x.M != 0) | uses(usesS, x.S != "") | uses(usesT, x.T != "") |
		uses(usesThen, len(x.Then) > 0) | uses(usesElse, len(x.Else) > 0) | uses(usesArms, len(x.Arms) > 0)
	return used&^c.uses == 0 && (c.xs == anyNumber || c.xs == len(x.Xs))
}

// commands returns the conditions on statements of the chapter.
func commands() []command {
	return []command{
		api.SLet: {usesN, 1, func(s *scope, x api.Stmt) bool {
			t, ok := s.has(x.Xs[0])
			return ok && s.bind(x.N, t)
		}},
		api.SSet: {usesN, 1, func(s *scope, x api.Stmt) bool {
			return isIndex(x.N, len(s.vars)) && s.is(x.Xs[0], s.vars[x.N].Type)
		}},
		api.SIf: {usesThen | usesElse, 1, func(s *scope, x api.Stmt) bool {
			return s.is(x.Xs[0], basic(api.TyBool)) && s.block(x.Then) && s.block(x.Else)
		}},
		api.SMatch: {usesArms, 1, (*scope).matchStatement},
		api.SArm:   {uses: usesN | usesM | usesThen},
		api.SFor:   {usesN | usesThen, 1, (*scope).loop},
		api.SSend: {usesS, anyNumber, func(s *scope, x api.Stmt) bool {
			return s.sending(x.S, x.Xs)
		}},
		api.SAfter: {usesS, anyNumber, func(s *scope, x api.Stmt) bool {
			return len(x.Xs) > 0 && s.is(x.Xs[0], basic(api.TyInt)) && s.sending(x.S, x.Xs[1:])
		}},
		api.SSpawn: {usesN | usesM | usesS, anyNumber, (*scope).spawn},
		api.SDo:    {usesS | usesT, anyNumber, (*scope).request},
		api.SStop:  {0, 0, func(s *scope, x api.Stmt) bool { return true }},
		api.SFail: {0, 1, func(s *scope, x api.Stmt) bool {
			return s.is(x.Xs[0], basic(api.TyText))
		}},
	}
}

// block reports whether a list of statements is valid. The bindings in it end with it.
func (s *scope) block(l []api.Stmt) bool {
	ok := every(l, s.isStatement)
	for _, x := range l {
		if x.Op == api.SLet || x.Op == api.SSpawn {
			s.free(x.N)
		}
	}
	return ok
}

func (s *scope) isStatement(x api.Stmt) bool {
	if !isIndex(x.Op, len(s.commands)) {
		return false
	}
	c := s.commands[x.Op]
	return c.condition != nil && c.isShapeOf(x) && c.condition(s, x)
}

func (s *scope) matchStatement(x api.Stmt) bool {
	a, ok := s.armsOf(x.Xs[0])
	return ok && every(x.Arms, func(arm api.Stmt) bool {
		return arm.Op == api.SArm && s.commands[api.SArm].isShapeOf(arm) &&
			s.arm(a, arm.N, arm.M, func() bool { return s.block(arm.Then) })
	}) && a.areComplete()
}

func (s *scope) loop(x api.Stmt) bool {
	t, ok := s.has(x.Xs[0])
	if !ok || t.Kind != api.TyList || !s.bind(x.N, t.Args[0]) {
		return false
	}
	ok = s.block(x.Then)
	s.free(x.N)
	return ok
}

// sending reports whether expressions are a receiver of a message and its arguments.
func (s *scope) sending(name string, l []api.Expr) bool {
	if len(l) == 0 {
		return false
	}
	to, ok := s.has(l[0])
	params, found := s.handlers[message{to.Name, name}]
	return ok && to.Kind == api.TyRef && found && s.fill(l[1:], params)
}

func (s *scope) spawn(x api.Stmt) bool {
	params, found := s.actors[x.S]
	args := x.Xs
	switch x.M {
	case 0:
	case 1:
		if len(args) == 0 || !s.is(args[0], basic(api.TyInt)) {
			return false
		}
		args = args[1:]
	default:
		return false
	}
	return found && s.fill(args, params) && (x.N == -1 || s.bind(x.N, refTo(x.S)))
}

func (s *scope) request(x api.Stmt) bool {
	f, found := s.effects[x.S]
	params, handled := s.handlers[message{s.actor, x.T}]
	return found && s.fill(x.Xs, f.Params) && handled && len(params) == 1 && types.Same(params[0].Type, f.Answer)
}
