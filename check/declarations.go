package check

import (
	"slices"

	"retroact/api"
	"retroact/syntax"
	"retroact/types"
)

// declarations completes the functions and actors of the program, which are in the order of their nodes.
func (c *checker) declarations(l []api.Node) {
	funs, actors := 0, 0
	for _, n := range l {
		switch n.Kind {
		case syntax.KFun:
			c.body(funs, last(n), c.out.Prog.Funs[funs].Result)
			funs++
		case syntax.KActor:
			c.actor(&c.out.Prog.Actors[actors], n)
			actors++
		}
	}
}

// body gives a function its body, and the result type that results from the expected one, which may be none.
func (c *checker) body(fun int, n api.Node, want api.Type) {
	s := c.newScope(c.out.Prog.Funs[fun].Params)
	x, t := s.expr(n, want)
	f := &c.out.Prog.Funs[fun]
	f.Result, f.Slots, f.Body = copied(t), s.slots, x
}

// lift appends a function without a name, and returns its index.
func (c *checker) lift(params []api.Field, body api.Node, want api.Type) int {
	fun := len(c.out.Prog.Funs)
	c.out.Prog.Funs = append(c.out.Prog.Funs, api.Fun{Params: copiedFields(params)})
	c.body(fun, body, want)
	return fun
}

func (c *checker) actor(a *api.Actor, n api.Node) {
	inits := c.newScope(a.Params)
	inits.actor = a.Name
	vars, on := 0, 0
	for _, kid := range n.Kids {
		switch kid.Kind {
		case syntax.KState:
			v := &a.Vars[vars]
			v.Init = inits.checked(last(kid), v.Type)
			vars++
		case syntax.KOn:
			c.handler(a, &a.On[on], last(kid))
			on++
		}
	}
	a.Slots = inits.slots
}

func (c *checker) handler(a *api.Actor, h *api.Handler, block api.Node) {
	s := c.newScope(h.Params)
	s.actor, s.vars = a.Name, a.Vars
	h.Body = s.block(block)
	h.Slots = s.slots
}

// params returns what the nodes of parameters declare, among which no name may occur twice.
func params(nodes []api.Node) []api.Field {
	var l []api.Field
	seen := map[string]bool{}
	for _, n := range nodes {
		if seen[n.Text] {
			fail(api.ErrTwice, n)
		}
		seen[n.Text] = true
		l = append(l, api.Field{Name: n.Text, Type: typeOf(n.Kids[0])})
	}
	return l
}

// declaredTypes fails at the first type node of a list of trees whose name is not declared.
func (c *checker) declaredTypes(l []api.Node) {
	for _, n := range l {
		isName := n.Kind == syntax.KTypeName || n.Kind == syntax.KTypeRef
		if isName && !types.Right(c.out.Prog, typeOf(n)) {
			fail(api.ErrName, n)
		}
		c.declaredTypes(n.Kids)
	}
}

// actorOf returns the actor type that a node names.
func (c *checker) actorOf(n api.Node) api.Actor {
	k, ok := types.Actor(c.out.Prog, n.Text)
	if !ok {
		fail(api.ErrName, n)
	}
	return c.out.Prog.Actors[k]
}

// handlerOf returns that of an actor type for a message.
func (c *checker) handlerOf(actor, message string) (api.Handler, bool) {
	k, _ := types.Actor(c.out.Prog, actor)
	on := c.out.Prog.Actors[k].On
	j := slices.IndexFunc(on, func(h api.Handler) bool { return h.Msg == message })
	if j < 0 {
		return api.Handler{}, false
	}
	return on[j], true
}

// typeOf returns the type that a type node of a right tree denotes.
func typeOf(n api.Node) api.Type {
	t, _ := types.Read(n)
	return t
}

func last(n api.Node) api.Node { return n.Kids[len(n.Kids)-1] }

// kidsOf returns the kids of a kind.
func kidsOf(n api.Node, kind int) []api.Node {
	var l []api.Node
	for _, kid := range n.Kids {
		if kid.Kind == kind {
			l = append(l, kid)
		}
	}
	return l
}

// copied returns a type that shares no memory, as types do within the checker, but not in its results.
func copied(t api.Type) api.Type {
	t.Args = slices.Clone(t.Args)
	for k, arg := range t.Args {
		t.Args[k] = copied(arg)
	}
	return t
}

func copiedFields(l []api.Field) []api.Field {
	l = slices.Clone(l)
	for k, f := range l {
		l[k].Type = copied(f.Type)
	}
	return l
}
