package comp

import "retroact/api"

const (
	// anyCtor is the N of an arm for every constructor.
	anyCtor = -1
	// noSlot is the N of an SSpawn that binds no slot.
	noSlot = -1
)

func (c *compiler) statements(l []api.Stmt) {
	for k := range l {
		c.statement(&l[k])
	}
}

// statement adds the instructions of a statement, which leave the stack as it was.
func (c *compiler) statement(s *api.Stmt) {
	c.expressions(s.Xs)
	switch s.Op {
	case api.SLet:
		c.add(IStore, s.N, 0)
	case api.SSet:
		c.add(ISet, s.N, 0)
	case api.SIf:
		c.branches(s)
	case api.SMatch:
		c.arms(len(s.Arms), func(k int) arm {
			a := &s.Arms[k]
			return arm{a.N, a.M, func() { c.statements(a.Then) }}
		})
	case api.SFor:
		c.loop(s)
	case api.SSend:
		c.add(ISend, c.name(s.S), len(s.Xs)-1)
	case api.SAfter:
		c.add(IAfter, c.name(s.S), len(s.Xs)-2)
	case api.SSpawn:
		c.spawn(s)
	case api.SDo:
		c.add(IConst, c.constant(text(s.T)), 0)
		c.add(IAsk, c.name(s.S), len(s.Xs))
	case api.SStop:
		c.add(IStop, 0, 0)
	case api.SFail:
		c.add(IFail, 0, 0)
	}
}

func (c *compiler) branches(s *api.Stmt) {
	otherwise := c.jump(IFalse, 0)
	c.statements(s.Then)
	if len(s.Else) == 0 {
		otherwise()
		return
	}
	end := c.jump(IJump, 0)
	otherwise()
	c.statements(s.Else)
	end()
}

func (c *compiler) loop(s *api.Stmt) {
	c.add(IConst, c.constant(integer(0)), 0)
	next := len(c.code.Ins)
	end := c.jump(INext, s.N)
	c.statements(s.Then)
	c.add(IJump, next, 0)
	end()
}

func (c *compiler) spawn(s *api.Stmt) {
	args := len(s.Xs) - s.M
	c.add(ISpawn, c.name(s.S), 2*args+s.M)
	if s.N == noSlot {
		c.add(IPop, 0, 0)
	} else {
		c.add(IStore, s.N, 0)
	}
}
