package mean

import (
	"slices"

	"retroact/api"
	"retroact/num"
	"retroact/value"
)

// operate returns the value of an expression that depends on the values of its Kids alone, apart from the environment.
func (e *evaluator) operate(x *api.Expr, kids []api.Value) api.Value {
	switch x.Op {
	case api.XLocal:
		return e.slot(x.N)
	case api.XState:
		return e.vars[x.N]
	case api.XSelf:
		return e.self
	case api.XUnit:
		return api.Value{Kind: api.VUnit}
	case api.XBool:
		return api.Value{Kind: api.VBool, N: x.N}
	case api.XInt:
		return integer(x.N)
	case api.XText:
		return text(x.S)
	case api.XGet:
		return kids[0].L[x.N]
	case api.XNot:
		return truth(!isTrue(kids[0]))
	case api.XNeg, api.XAdd, api.XSub, api.XMul, api.XDiv, api.XMod:
		return integer(calculate(x.Op, kids))
	case api.XEq, api.XNe, api.XLt, api.XLe, api.XGt, api.XGe:
		return truth(compare(x.Op, kids[0], kids[1]))
	case api.XPrim:
		return primitive(x.N, kids)
	}
	return limited(compose(x, kids))
}

// compose returns the value of an expression that makes one of the values of its Kids, whatever its size.
func compose(x *api.Expr, kids []api.Value) api.Value {
	switch x.Op {
	case api.XRec:
		return api.Value{Kind: api.VRec, T: x.S, L: slices.Clone(kids)}
	case api.XCtor:
		return api.Value{Kind: api.VVar, T: x.S, N: x.N, L: slices.Clone(kids)}
	case api.XFun:
		return api.Value{Kind: api.VFun, N: x.N, L: slices.Clone(kids)}
	case api.XWith:
		return replaced(kids[0], x.N, kids[1])
	case api.XCat:
		v := kids[0]
		v.S, v.L = v.S+kids[1].S, slices.Concat(v.L, kids[1].L)
		return v
	}
	return list(slices.Clone(kids))
}

// replaced returns a value with another element in one place.
func replaced(v api.Value, k int, element api.Value) api.Value {
	v.L = slices.Clone(v.L)
	v.L[k] = element
	return v
}

// limited returns a value unless it is too large.
func limited(v api.Value) api.Value {
	if len(v.S) > api.MaxText || v.Kind == api.VList && len(v.L) > api.MaxList || value.Nodes(v) > api.MaxValue {
		raise(api.FSize)
	}
	return v
}

// calculate returns the result of an arithmetic operator.
func calculate(op int, kids []api.Value) int {
	a, b := kids[0].N, kids[len(kids)-1].N
	if (op == api.XDiv || op == api.XMod) && b == 0 {
		raise(api.FZero)
	}
	n, ok := 0, false
	switch op {
	case api.XNeg:
		n, ok = num.Neg(a)
	case api.XAdd:
		n, ok = num.Add(a, b)
	case api.XSub:
		n, ok = num.Sub(a, b)
	case api.XMul:
		n, ok = num.Mul(a, b)
	case api.XDiv:
		n, ok = num.Div(a, b)
	case api.XMod:
		n, ok = num.Mod(a, b)
	}
	if !ok {
		raise(api.FOver)
	}
	return n
}

// compare reports whether a comparison holds. The order of values is that of their integers or strings if they are of one of these types.
func compare(op int, a, b api.Value) bool {
	switch op {
	case api.XEq:
		return value.Equal(a, b)
	case api.XNe:
		return !value.Equal(a, b)
	case api.XLt:
		return value.Compare(a, b) < 0
	case api.XLe:
		return value.Compare(a, b) <= 0
	case api.XGt:
		return value.Compare(a, b) > 0
	}
	return value.Compare(a, b) >= 0
}

// primitive returns the result of a primitive function.
func primitive(fun int, args []api.Value) api.Value {
	whole := args[0]
	switch fun {
	case api.PLen:
		return integer(len(whole.L))
	case api.PSize:
		return integer(len(whole.S))
	case api.PAt:
		return whole.L[index(args[1], len(whole.L))]
	case api.PPut:
		return limited(replaced(whole, index(args[1], len(whole.L)), args[2]))
	case api.PSlice:
		from, to := part(args, len(whole.L))
		return list(whole.L[from:to])
	case api.PSub:
		from, to := part(args, len(whole.S))
		return text(whole.S[from:to])
	}
	return text(num.Text(whole.N))
}

// index returns the index of one of some elements.
func index(v api.Value, count int) int { return between(v, 0, count-1) }

// part returns the bounds of a part of some elements or bytes, which are the last two arguments.
func part(args []api.Value, count int) (from, to int) {
	to = between(args[2], 0, count)
	return between(args[1], 0, to), to
}

// between returns an integer that must lie between two others.
func between(v api.Value, low, high int) int {
	if v.N < low || v.N > high {
		raise(api.FIndex)
	}
	return v.N
}
