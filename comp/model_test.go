package comp_test

import (
	"slices"

	"retroact/api"
	"retroact/comp"
)

// line is an instruction of the plain model of the compiler.
type line struct {
	op, a, b int
	// to is the distance from the instruction to its target.
	to int
	// value and name are those that the operand A refers to.
	value *api.Value
	name  string
}

func op(op int, operands ...int) []line {
	l := line{op: op}
	if len(operands) > 0 {
		l.a = operands[0]
	}
	if len(operands) > 1 {
		l.b = operands[1]
	}
	return []line{l}
}

// constLine is an instruction with a constant.
func constLine(op, b int, x api.Expr) []line {
	v := constantOf(x)
	return []line{{op: op, b: b, value: &v}}
}

func nameLine(op int, s string, b int) []line { return []line{{op: op, b: b, name: s}} }

// over jumps over lines behind it.
func over(op int, skipped ...[]line) []line {
	return []line{{op: op, to: 1 + len(slices.Concat(skipped...))}}
}

func modelExprs(xs []api.Expr) []line {
	var l []line
	for _, x := range xs {
		l = append(l, modelExpr(x)...)
	}
	return l
}

// either is one of two lists of lines.
func either(op int, a, b []line) []line {
	end := over(comp.IJump, b)
	return slices.Concat(over(op, a, end), a, end, b)
}

func modelExpr(x api.Expr) []line {
	count := len(x.Kids)
	shape := api.Expr{Op: x.Op, N: x.N, S: x.S}
	switch x.Op {
	case api.XIf:
		return slices.Concat(modelExpr(x.Kids[0]), either(comp.IFalse, modelExpr(x.Kids[1]), modelExpr(x.Kids[2])))
	case api.XAnd:
		return slices.Concat(modelExpr(x.Kids[0]), either(comp.IFalse, modelExpr(x.Kids[1]), constLine(comp.IConst, 0, expr("bool0"))))
	case api.XOr:
		return slices.Concat(modelExpr(x.Kids[0]), either(comp.ITrue, modelExpr(x.Kids[1]), constLine(comp.IConst, 0, expr("bool1"))))
	case api.XLet:
		return slices.Concat(modelExpr(x.Kids[0]), op(comp.IStore, x.N), modelExpr(x.Kids[1]))
	case api.XMatch:
		var arms []modelArm
		for _, arm := range x.Kids[1:] {
			arms = append(arms, modelArm{arm.N, arm.M, modelExpr(arm.Kids[0])})
		}
		return append(modelExpr(x.Kids[0]), modelArms(arms)...)
	}
	kids := modelExprs(x.Kids)
	switch x.Op {
	case api.XUnit, api.XBool, api.XInt, api.XText:
		return constLine(comp.IConst, 0, shape)
	case api.XList, api.XRec, api.XCtor, api.XFun:
		return append(kids, constLine(comp.IMake, count, shape)...)
	case api.XLocal:
		return op(comp.ILocal, x.N)
	case api.XState:
		return op(comp.IState, x.N)
	case api.XSelf:
		return op(comp.ISelf)
	case api.XGet:
		return append(kids, op(comp.IGet, x.N)...)
	case api.XWith:
		return append(kids, op(comp.IWith, x.N)...)
	case api.XNot, api.XNeg:
		return append(kids, op(comp.IUnary, x.Op)...)
	case api.XAdd, api.XSub, api.XMul, api.XDiv, api.XMod, api.XCat, api.XEq, api.XNe, api.XLt, api.XLe, api.XGt, api.XGe:
		return append(kids, op(comp.IBinary, x.Op)...)
	case api.XCall:
		return append(kids, op(comp.ICall, x.N, count)...)
	case api.XApply:
		return append(kids, op(comp.IApply, count-1)...)
	case api.XPrim:
		return append(kids, op(comp.IPrim, x.N)...)
	default:
		panic("an expression without a meaning")
	}
}

type modelArm struct {
	ctor, first int
	result      []line
}

func modelArms(arms []modelArm) []line {
	arm := arms[0]
	bound := op(comp.IBind, arm.first)
	if arm.ctor == -1 {
		bound = op(comp.IPop)
	}
	bound = append(bound, arm.result...)
	if len(arms) == 1 {
		return bound
	}
	rest := modelArms(arms[1:])
	end := over(comp.IJump, rest)
	if arm.ctor == -1 {
		return slices.Concat(bound, end, rest)
	}
	test := over(comp.ICase, bound, end)
	test[0].a = arm.ctor
	return slices.Concat(test, bound, end, rest)
}

func modelBlock(stmts []api.Stmt) []line {
	var l []line
	for _, s := range stmts {
		l = append(l, modelStmt(s)...)
	}
	return l
}

func modelStmt(s api.Stmt) []line {
	xs, count := modelExprs(s.Xs), len(s.Xs)
	switch s.Op {
	case api.SLet:
		return append(xs, op(comp.IStore, s.N)...)
	case api.SSet:
		return append(xs, op(comp.ISet, s.N)...)
	case api.SIf:
		then, other := modelBlock(s.Then), modelBlock(s.Else)
		if len(other) == 0 && len(s.Else) == 0 {
			return slices.Concat(xs, over(comp.IFalse, then), then)
		}
		return append(xs, either(comp.IFalse, then, other)...)
	case api.SMatch:
		var arms []modelArm
		for _, arm := range s.Arms {
			arms = append(arms, modelArm{arm.N, arm.M, modelBlock(arm.Then)})
		}
		return append(xs, modelArms(arms)...)
	case api.SFor:
		then := modelBlock(s.Then)
		next, back := op(comp.INext, 0, s.N), op(comp.IJump)
		next[0].to, back[0].to = len(then)+2, -len(then)-1
		return slices.Concat(xs, constLine(comp.IConst, 0, expr("int0")), next, then, back)
	case api.SSend:
		return append(xs, nameLine(comp.ISend, s.S, count-1)...)
	case api.SAfter:
		return append(xs, nameLine(comp.IAfter, s.S, count-2)...)
	case api.SSpawn:
		last := op(comp.IPop)
		if s.N != -1 {
			last = op(comp.IStore, s.N)
		}
		return slices.Concat(xs, nameLine(comp.ISpawn, s.S, 2*(count-s.M)+s.M), last)
	case api.SDo:
		return slices.Concat(xs, constLine(comp.IConst, 0, api.Expr{Op: api.XText, S: s.T}), nameLine(comp.IAsk, s.S, count))
	case api.SStop:
		return op(comp.IStop)
	case api.SFail:
		return append(xs, op(comp.IFail)...)
	default:
		panic("a statement without a meaning")
	}
}

// modelCompile compiles a valid program.
func modelCompile(p api.Prog) api.Code {
	c := new(assembler)
	for _, f := range p.Funs {
		c.Funs = append(c.Funs, api.Entry{At: len(c.Ins), Params: len(f.Params), Slots: f.Slots})
		c.lines(append(modelExpr(f.Body), op(comp.IReturn)...))
	}
	for _, a := range p.Actors {
		c.Ons = append(c.Ons, api.Entry{Actor: a.Name, At: len(c.Ins), Params: len(a.Params), Slots: a.Slots})
		for _, v := range a.Vars {
			c.lines(modelExpr(v.Init))
		}
		c.lines(op(comp.IInit, len(a.Vars)))
		for _, h := range a.On {
			c.Ons = append(c.Ons, api.Entry{Actor: a.Name, Msg: h.Msg, At: len(c.Ins), Params: len(h.Params), Slots: h.Slots})
			c.lines(append(modelBlock(h.Body), op(comp.IEnd)...))
		}
	}
	return c.Code
}

// lines adds lines, which refer to others among them only.
func (c *assembler) lines(l []line) {
	for _, x := range l {
		i := api.Ins{Op: x.op, A: x.a, B: x.b}
		switch {
		case x.value != nil:
			i.A = c.constant(*x.value)
		case x.name != "":
			i.A = c.name(x.name)
		case x.op == comp.ICase:
			i.B = len(c.Ins) + x.to
		case x.to != 0:
			i.A = len(c.Ins) + x.to
		}
		c.Ins = append(c.Ins, i)
	}
}
