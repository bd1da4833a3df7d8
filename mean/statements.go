package mean

import (
	"slices"

	"retroact/api"
)

// invocation is a call under way.
type invocation struct {
	*evaluator
	call api.Call
	// out holds the outputs so far, and Stop.
	out api.Result
}

// run evaluates the Inits of the state variables, or executes the handler.
func (i *invocation) run() {
	a, _ := actorOf(i.prog, i.call.Actor)
	i.self = reference(a.Name, i.call.Path)
	if i.call.Msg == "" {
		for k := range a.Vars {
			i.vars = append(i.vars, i.evaluate(&a.Vars[k].Init))
		}
		return
	}
	h, _ := handlerOf(a, i.call.Msg)
	i.vars = slices.Clone(i.call.Vars)
	i.block(h.Body)
}

// block executes statements, and reports whether the invocation goes on behind them.
func (i *invocation) block(l []api.Stmt) bool {
	for k := range l {
		if !i.statement(&l[k]) {
			return false
		}
	}
	return true
}

func (i *invocation) statement(s *api.Stmt) bool {
	switch s.Op {
	case api.SIf:
		if isTrue(i.evaluate(&s.Xs[0])) {
			return i.block(s.Then)
		}
		return i.block(s.Else)
	case api.SMatch:
		return i.block(i.arm(s.Arms, i.evaluate(&s.Xs[0])))
	case api.SFor:
		return i.loop(s.N, i.evaluate(&s.Xs[0]).L, s.Then)
	case api.SStop:
		i.out.Stop = true
		return false
	case api.SFail:
		panic(fault{kind: api.FFail, why: i.evaluate(&s.Xs[0]).S})
	case api.SLet:
		i.store(s.N, i.evaluate(&s.Xs[0]))
	case api.SSet:
		i.vars[s.N] = i.evaluate(&s.Xs[0])
	default:
		i.output(s, i.all(s.Xs))
	}
	return true
}

// arm returns the statements of the arm of an SMatch for a value.
func (i *invocation) arm(arms []api.Stmt, v api.Value) []api.Stmt {
	k := slices.IndexFunc(arms, func(arm api.Stmt) bool { return i.enter(v, arm.N, arm.M) })
	return arms[k].Then
}

func (i *invocation) loop(slot int, elements []api.Value, body []api.Stmt) bool {
	for _, element := range elements {
		i.use()
		i.store(slot, element)
		if !i.block(body) {
			return false
		}
	}
	return true
}

// all evaluates expressions from left to right.
func (i *invocation) all(xs []api.Expr) []api.Value {
	var l []api.Value
	for k := range xs {
		l = append(l, i.evaluate(&xs[k]))
	}
	return l
}
