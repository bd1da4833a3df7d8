package check

import (
	"slices"

	"retroact/api"
	"retroact/syntax"
	"retroact/types"
)

// initWord stands for the parameters of an actor type in the place of a message.
const initWord = "init"

// change translates a change, if a node of a patch file is one.
func (c *checker) change(n api.Node) {
	switch n.Kind {
	case syntax.KConvType:
		c.convert(n, c.typeConverter(n))
	case syntax.KConvActor:
		c.convert(n, c.actorConverter(n))
	case syntax.KConvMsg:
		c.convert(n, c.messageConverter(n))
	case syntax.KMove:
		c.move(n)
	case syntax.KDrop:
		c.unmoved(n)
		c.out.Drops = append(c.out.Drops, n.Text)
	}
}

// convert adds a converter, if there is no other one of the same.
func (c *checker) convert(n api.Node, x api.Conv) {
	isTwice := slices.ContainsFunc(c.out.Convs, func(y api.Conv) bool {
		return y.Kind == x.Kind && y.Name == x.Name && y.Sub == x.Sub
	})
	if isTwice {
		fail(api.ErrTwice, n)
	}
	c.out.Convs = append(c.out.Convs, x)
}

func (c *checker) move(n api.Node) {
	c.actorOf(n)
	if n.N >= api.MaxNodes {
		fail(api.ErrRange, n)
	}
	c.unmoved(n)
	c.out.Moves = append(c.out.Moves, api.Move{Actor: n.Text, Node: n.N})
}

// unmoved fails if an earlier change moves or drops the same actor type as a node.
func (c *checker) unmoved(n api.Node) {
	isMoved := slices.ContainsFunc(c.out.Moves, func(m api.Move) bool { return m.Actor == n.Text })
	if isMoved || slices.Contains(c.out.Drops, n.Text) {
		fail(api.ErrTwice, n)
	}
}

func (c *checker) typeConverter(n api.Node) api.Conv {
	x := api.Conv{Kind: api.CvType, Name: n.Text, Sub: n.Text}
	if n.N == 1 {
		x.Sub = n.Kids[0].Text
	}
	body := last(n)
	fun := c.lift(c.oldFields(n), body, api.Type{})
	if c.out.Prog.Funs[fun].Result.Kind != api.TyNamed {
		fail(api.ErrType, body)
	}
	x.Funs = []int{fun}
	return x
}

func (c *checker) actorConverter(n api.Node) api.Conv {
	x := api.Conv{Kind: api.CvActor, Name: n.Text}
	vars := varsOf(c.actorOf(n))
	old := c.oldFields(n)
	values := make([]api.Node, len(vars))
	seen := map[int]bool{}
	for _, set := range kidsOf(n, syntax.KSet) {
		values[unset(set, vars, seen)] = set.Kids[0]
	}
	if len(seen) < len(vars) {
		fail(api.ErrNeed, n)
	}
	for k, value := range values {
		x.Funs = append(x.Funs, c.lift(old, value, vars[k].Type))
	}
	return x
}

func (c *checker) messageConverter(n api.Node) api.Conv {
	message := last(n)
	x := api.Conv{Kind: api.CvMsg, Name: n.Text, Sub: n.Kids[0].Text, To: message.Text}
	a := c.actorOf(n)
	old := c.oldFields(n)
	fields := a.Params
	if x.To != initWord {
		h, ok := c.handlerOf(a.Name, x.To)
		if !ok {
			fail(api.ErrName, message)
		}
		fields = h.Params
	}
	if len(message.Kids) != len(fields) {
		fail(api.ErrType, message)
	}
	for k, value := range message.Kids {
		x.Funs = append(x.Funs, c.lift(old, value, fields[k].Type))
	}
	return x
}

// oldFields returns the fields of a converter.
func (c *checker) oldFields(n api.Node) []api.Field {
	nodes := kidsOf(n, syntax.KField)
	c.declaredTypes(nodes)
	for _, field := range nodes {
		if !types.Storable(typeOf(field.Kids[0])) {
			fail(api.ErrType, field.Kids[0])
		}
	}
	return params(nodes)
}

func varsOf(a api.Actor) []api.Field {
	var l []api.Field
	for _, v := range a.Vars {
		l = append(l, api.Field{Name: v.Name, Type: v.Type})
	}
	return l
}
