package comp

import "retroact/api"

// expression adds the instructions that push the value of an expression.
func (c *compiler) expression(x *api.Expr) {
	switch x.Op {
	case api.XIf:
		c.choice(x)
	case api.XAnd:
		c.shortcut(x, IFalse, 0)
	case api.XOr:
		c.shortcut(x, ITrue, 1)
	case api.XLet:
		c.expression(&x.Kids[0])
		c.add(IStore, x.N, 0)
		c.expression(&x.Kids[1])
	case api.XMatch:
		c.expression(&x.Kids[0])
		c.arms(len(x.Kids)-1, func(k int) arm {
			a := &x.Kids[k+1]
			return arm{a.N, a.M, func() { c.expression(&a.Kids[0]) }}
		})
	default:
		c.expressions(x.Kids)
		c.operation(x)
	}
}

func (c *compiler) expressions(l []api.Expr) {
	for k := range l {
		c.expression(&l[k])
	}
}

// operation adds the instruction that follows those of all Kids.
func (c *compiler) operation(x *api.Expr) {
	switch x.Op {
	case api.XUnit, api.XBool, api.XInt, api.XText:
		c.add(IConst, c.constant(constantOf(x)), 0)
	case api.XLocal:
		c.add(ILocal, x.N, 0)
	case api.XState:
		c.add(IState, x.N, 0)
	case api.XSelf:
		c.add(ISelf, 0, 0)
	case api.XList, api.XRec, api.XCtor, api.XFun:
		c.add(IMake, c.constant(constantOf(x)), len(x.Kids))
	case api.XGet:
		c.add(IGet, x.N, 0)
	case api.XWith:
		c.add(IWith, x.N, 0)
	case api.XNot, api.XNeg:
		c.add(IUnary, x.Op, 0)
	case api.XCall:
		c.add(ICall, x.N, len(x.Kids))
	case api.XApply:
		c.add(IApply, len(x.Kids)-1, 0)
	case api.XPrim:
		c.add(IPrim, x.N, 0)
	default:
		c.add(IBinary, x.Op, 0)
	}
}

// constantOf returns the value of an expression, without the elements of L.
func constantOf(x *api.Expr) api.Value {
	switch x.Op {
	case api.XUnit:
		return api.Value{Kind: api.VUnit}
	case api.XBool:
		return truth(x.N)
	case api.XInt:
		return integer(x.N)
	case api.XText:
		return text(x.S)
	case api.XList:
		return api.Value{Kind: api.VList}
	case api.XRec:
		return api.Value{Kind: api.VRec, T: x.S}
	case api.XCtor:
		return api.Value{Kind: api.VVar, T: x.S, N: x.N}
	default:
		return api.Value{Kind: api.VFun, N: x.N}
	}
}

func truth(n int) api.Value { return api.Value{Kind: api.VBool, N: n} }

func integer(n int) api.Value { return api.Value{Kind: api.VInt, N: n} }

func text(s string) api.Value { return api.Value{Kind: api.VText, S: s} }

func (c *compiler) choice(x *api.Expr) {
	c.expression(&x.Kids[0])
	otherwise := c.jump(IFalse, 0)
	c.expression(&x.Kids[1])
	end := c.jump(IJump, 0)
	otherwise()
	c.expression(&x.Kids[2])
	end()
}

// shortcut adds the instructions of an operator whose first operand may determine its value.
func (c *compiler) shortcut(x *api.Expr, op, value int) {
	c.expression(&x.Kids[0])
	determined := c.jump(op, 0)
	c.expression(&x.Kids[1])
	end := c.jump(IJump, 0)
	determined()
	c.add(IConst, c.constant(truth(value)), 0)
	end()
}

// arm is an arm of a match: its constructor, the first of the slots of its arguments, and what adds the instructions of its result.
type arm struct {
	ctor, first int
	result      func()
}

// arms adds the instructions of the arms of a match, whose scrutinee is on top.
func (c *compiler) arms(count int, get func(k int) arm) {
	var ends []func()
	for k := range count - 1 {
		// Only the last arm may be one for every constructor.
		a := get(k)
		next := c.unless(a.ctor)
		c.bind(a)
		ends = append(ends, c.jump(IJump, 0))
		next()
	}
	c.bind(get(count - 1))
	for _, end := range ends {
		end()
	}
}

// bind adds the instructions of an arm whose constructor the scrutinee has.
func (c *compiler) bind(a arm) {
	if a.ctor == anyCtor {
		c.add(IPop, 0, 0)
	} else {
		c.add(IBind, a.first, 0)
	}
	a.result()
}
