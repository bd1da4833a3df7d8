package types

import (
	"retroact/api"
	"retroact/syntax"
)

// declarations returns those of a program or patch, without the changes between them.
func declarations(n api.Node) []api.Node {
	var l []api.Node
	for _, kid := range n.Kids {
		switch kid.Kind {
		case syntax.KRecord, syntax.KVariant, syntax.KEffect, syntax.KFun, syntax.KActor:
			l = append(l, kid)
		}
	}
	return l
}

// program returns what declarations declare.
func program(l []api.Node) api.Prog {
	var p api.Prog
	for _, n := range l {
		switch n.Kind {
		case syntax.KRecord:
			p.Types = append(p.Types, record(n))
		case syntax.KVariant:
			p.Types = append(p.Types, variant(n))
		case syntax.KEffect:
			p.Effects = append(p.Effects, effect(n))
		case syntax.KFun:
			p.Funs = append(p.Funs, fun(n))
		case syntax.KActor:
			p.Actors = append(p.Actors, actor(n))
		}
	}
	return p
}

func record(n api.Node) api.Decl {
	return api.Decl{Name: n.Text, Record: true, Ctors: []api.Ctor{{Name: n.Text, Fields: fields(n)}}}
}

func variant(n api.Node) api.Decl {
	d := api.Decl{Name: n.Text}
	for _, kid := range n.Kids {
		d.Ctors = append(d.Ctors, alternative(kid))
	}
	return d
}

func alternative(n api.Node) api.Ctor {
	c := api.Ctor{Name: n.Text}
	for _, kid := range n.Kids {
		c.Fields = append(c.Fields, api.Field{Type: typeOf(kid)})
	}
	return c
}

func effect(n api.Node) api.Effect {
	params, answer := signature(n)
	return api.Effect{Name: n.Text, Params: params, Answer: answer}
}

func fun(n api.Node) api.Fun {
	params, result := signature(n)
	return api.Fun{Name: n.Text, Params: params, Result: result}
}

// signature returns the parameters of an effect or a function, and the type that follows them.
func signature(n api.Node) ([]api.Field, api.Type) {
	params := fields(n)
	return params, typeOf(n.Kids[len(params)])
}

func actor(n api.Node) api.Actor {
	a := api.Actor{Name: n.Text, Params: fields(n)}
	a.Policy, a.Most = policy(n.N)
	for _, kid := range n.Kids {
		switch kid.Kind {
		case syntax.KState:
			a.Vars = append(a.Vars, api.Var{Name: kid.Text, Type: typeOf(kid.Kids[0])})
		case syntax.KOn:
			a.On = append(a.On, api.Handler{Msg: kid.Text, Params: fields(kid)})
		}
	}
	return a
}

// policy returns the policy that the N of an actor denotes, and its maximum number of restarts.
func policy(n int) (policy, most int) {
	switch n {
	case 0:
		return api.PoStop, 0
	case -1:
		return api.PoEscalate, 0
	}
	return api.PoRestart, n - 1
}

// fields returns the fields or parameters among the kids of a node.
func fields(n api.Node) []api.Field {
	var l []api.Field
	for _, kid := range n.Kids {
		if kid.Kind == syntax.KField {
			l = append(l, api.Field{Name: kid.Text, Type: typeOf(kid.Kids[0])})
		}
	}
	return l
}

// typeOf returns the type that a type node of a right tree denotes.
func typeOf(n api.Node) api.Type {
	t, _ := Read(n)
	return t
}
