package mean_test

import (
	"math/big"
	"slices"
	"strconv"
	"strings"

	"retroact/api"
	"retroact/core"
	"retroact/value"
)

// model evaluates programs as plainly as the chapter describes it: each function returns a fault, which is 0 if there is none.
type model struct {
	p     api.Prog
	c     api.Call
	vars  []api.Value
	out   api.Result
	depth int
	// steps counts what is evaluated, by operators.
	steps map[int]int
}

// slots are those of an environment. Slots that are not stored hold unit values.
type slots map[int]api.Value

func slotsOf(l []api.Value) slots {
	s := slots{}
	for k, v := range l {
		s[k] = v
	}
	return s
}

func (s slots) get(n int) api.Value {
	if v, found := s[n]; found {
		return v
	}
	return unit()
}

func modelHasSpan(v api.Value) bool {
	return v.Kind == api.VSpan || slices.ContainsFunc(v.L, modelHasSpan)
}

// modelBelong reports whether values fit fields.
func modelBelong(p api.Prog, vs []api.Value, fs []api.Field) bool {
	if len(vs) != len(fs) {
		return false
	}
	for k := range vs {
		if !value.Fits(p, vs[k], fs[k].Type) || modelHasSpan(vs[k]) {
			return false
		}
	}
	return true
}

func modelFits(p api.Prog, c api.Call) bool {
	if !core.Right(p) || !value.Path(c.Path) || c.Kids < 0 || c.Kids > 1<<40 {
		return false
	}
	for _, a := range p.Actors {
		if a.Name != c.Actor {
			continue
		}
		if c.Msg == "" {
			return len(c.Vars) == 0 && modelBelong(p, c.Args, a.Params)
		}
		for _, h := range a.On {
			if h.Msg != c.Msg {
				continue
			}
			var fs []api.Field
			for _, v := range a.Vars {
				fs = append(fs, api.Field{Type: v.Type})
			}
			return modelBelong(p, c.Vars, fs) && modelBelong(p, c.Args, h.Params)
		}
	}
	return false
}

func modelRun(p api.Prog, c api.Call) (api.Result, map[int]int) {
	if !modelFits(p, c) {
		return notCall(), nil
	}
	m := &model{p: p, c: c, vars: slices.Clone(c.Vars), steps: map[int]int{}}
	fault := m.run()
	if fault != 0 {
		return api.Result{Fault: fault, Why: m.out.Why, Used: m.out.Used}, m.steps
	}
	m.out.Vars = m.vars
	return m.out, m.steps
}

func (m *model) run() int {
	for _, a := range m.p.Actors {
		if a.Name != m.c.Actor {
			continue
		}
		env := slotsOf(m.c.Args)
		if m.c.Msg == "" {
			for _, x := range a.Vars {
				v, fault := m.expr(env, x.Init)
				if fault != 0 {
					return fault
				}
				m.vars = append(m.vars, v)
			}
			return 0
		}
		for _, h := range a.On {
			if h.Msg == m.c.Msg {
				return m.block(env, h.Body)
			}
		}
	}
	panic("no such actor type or handler")
}

// all evaluates expressions from left to right.
func (m *model) all(env slots, xs []api.Expr) ([]api.Value, int) {
	var l []api.Value
	for _, x := range xs {
		v, fault := m.expr(env, x)
		if fault != 0 {
			return nil, fault
		}
		l = append(l, v)
	}
	return l, 0
}

func (m *model) expr(env slots, x api.Expr) (api.Value, int) {
	m.steps[x.Op]++
	switch x.Op {
	case api.XIf, api.XAnd, api.XOr, api.XLet, api.XMatch:
		v, fault := m.expr(env, x.Kids[0])
		if fault != 0 {
			return api.Value{}, fault
		}
		return m.chosen(env, x, v)
	}
	kids, fault := m.all(env, x.Kids)
	if fault != 0 {
		return api.Value{}, fault
	}
	switch x.Op {
	case api.XLocal:
		return env.get(x.N), 0
	case api.XState:
		return m.vars[x.N], 0
	case api.XSelf:
		return reference(m.c.Actor, m.c.Path), 0
	case api.XCall:
		return m.body(x.N, kids)
	case api.XApply:
		return m.body(kids[0].N, append(slices.Clone(kids[0].L), kids[1:]...))
	case api.XPrim:
		return modelPrimitive(x.N, kids)
	}
	return modelOperator(x, kids)
}

// chosen evaluates the operand of an expression that depends on the value of the first one.
func (m *model) chosen(env slots, x api.Expr, v api.Value) (api.Value, int) {
	switch {
	case x.Op == api.XLet:
		env[x.N] = v
		return m.expr(env, x.Kids[1])
	case x.Op == api.XMatch:
		for _, arm := range x.Kids[1:] {
			if arm.N == -1 {
				return m.expr(env, arm.Kids[0])
			}
			if arm.N == v.N {
				for k := range v.L {
					env[arm.M+k] = v.L[k]
				}
				return m.expr(env, arm.Kids[0])
			}
		}
		panic("no arm")
	case x.Op == api.XIf && v.N == 0:
		return m.expr(env, x.Kids[2])
	case x.Op == api.XAnd && v.N == 0, x.Op == api.XOr && v.N == 1:
		return v, 0
	}
	return m.expr(env, x.Kids[1])
}

func (m *model) fuel() int {
	if m.out.Used == 10000 {
		return api.FFuel
	}
	m.out.Used++
	return 0
}

func (m *model) body(fun int, args []api.Value) (api.Value, int) {
	if fault := m.fuel(); fault != 0 {
		return api.Value{}, fault
	}
	if m.depth == 100 {
		return api.Value{}, api.FDepth
	}
	m.depth++
	v, fault := m.expr(slotsOf(args), m.p.Funs[fun].Body)
	m.depth--
	return v, fault
}

// modelSized returns a value, or a fault if it is too large.
func modelSized(v api.Value) (api.Value, int) {
	count := 0
	for rest := []api.Value{v}; len(rest) > 0; count++ {
		last := rest[len(rest)-1]
		rest = append(rest[:len(rest)-1], last.L...)
	}
	if count > 16384 || v.Kind == api.VText && len(v.S) > 4096 || v.Kind == api.VList && len(v.L) > 4096 {
		return api.Value{}, api.FSize
	}
	return v, 0
}

func modelOperator(x api.Expr, kids []api.Value) (api.Value, int) {
	switch x.Op {
	case api.XUnit:
		return unit(), 0
	case api.XBool:
		return truth(x.N), 0
	case api.XInt:
		return integer(x.N), 0
	case api.XText:
		return text(x.S), 0
	case api.XList:
		return modelSized(list(kids...))
	case api.XRec:
		return modelSized(record(x.S, kids...))
	case api.XCtor:
		return modelSized(variant(x.S, x.N, kids...))
	case api.XFun:
		return modelSized(closure(x.N, kids...))
	case api.XGet:
		return kids[0].L[x.N], 0
	case api.XWith:
		fields := append([]api.Value{}, kids[0].L...)
		fields[x.N] = kids[1]
		return modelSized(record(kids[0].T, fields...))
	case api.XNot:
		return truth(1 - kids[0].N), 0
	case api.XNeg:
		return integer(-kids[0].N), 0
	case api.XCat:
		if kids[0].Kind == api.VText {
			return modelSized(text(kids[0].S + kids[1].S))
		}
		return modelSized(list(append(append([]api.Value{}, kids[0].L...), kids[1].L...)...))
	case api.XEq, api.XNe, api.XLt, api.XLe, api.XGt, api.XGe:
		return modelComparison(x.Op, kids[0], kids[1]), 0
	}
	return modelArithmetic(x.Op, kids[0].N, kids[1].N)
}

func modelComparison(op int, a, b api.Value) api.Value {
	// The forms of values are equal exactly if they are.
	equal := value.Show(a) == value.Show(b)
	less := a.N < b.N
	if a.Kind == api.VText {
		less = strings.Compare(a.S, b.S) < 0
	}
	holds := map[int]bool{api.XEq: equal, api.XNe: !equal, api.XLt: less, api.XLe: less || equal, api.XGt: !less && !equal, api.XGe: !less}[op]
	if holds {
		return truth(1)
	}
	return truth(0)
}

func modelArithmetic(op, a, b int) (api.Value, int) {
	x, y, z := big.NewInt(int64(a)), big.NewInt(int64(b)), new(big.Int)
	if (op == api.XDiv || op == api.XMod) && b == 0 {
		return api.Value{}, api.FZero
	}
	switch op {
	case api.XAdd:
		z.Add(x, y)
	case api.XSub:
		z.Sub(x, y)
	case api.XMul:
		z.Mul(x, y)
	case api.XDiv:
		z.Quo(x, y)
	case api.XMod:
		z.Rem(x, y)
	}
	if z.CmpAbs(big.NewInt(1<<53)) > 0 {
		return api.Value{}, api.FOver
	}
	return integer(int(z.Int64())), 0
}

func modelPrimitive(fun int, args []api.Value) (api.Value, int) {
	whole := args[0]
	size := len(whole.L) + len(whole.S)
	switch fun {
	case api.PLen, api.PSize:
		return integer(size), 0
	case api.PShow:
		return text(strconv.Itoa(whole.N)), 0
	case api.PAt, api.PPut:
		k := args[1].N
		if !(0 <= k && k < size) {
			return api.Value{}, api.FIndex
		}
		if fun == api.PAt {
			return whole.L[k], 0
		}
		var l []api.Value
		l = append(append(append(l, whole.L[:k]...), args[2]), whole.L[k+1:]...)
		return modelSized(list(l...))
	}
	from, to := args[1].N, args[2].N
	if !(0 <= from && from <= to && to <= size) {
		return api.Value{}, api.FIndex
	}
	if fun == api.PSub {
		return text(whole.S[from:to]), 0
	}
	return list(whole.L[from:to]...), 0
}

// ended stands for a fault where a stop statement has ended the invocation.
const ended = -1

// block executes statements.
func (m *model) block(env slots, l []api.Stmt) int {
	fault := m.statements(env, l)
	if fault == ended {
		return 0
	}
	return fault
}

func (m *model) statements(env slots, l []api.Stmt) int {
	for _, s := range l {
		if fault := m.statement(env, s); fault != 0 {
			return fault
		}
	}
	return 0
}

func (m *model) statement(env slots, s api.Stmt) int {
	m.steps[100+s.Op]++
	vs, fault := m.all(env, s.Xs)
	if fault != 0 {
		return fault
	}
	switch s.Op {
	case api.SLet:
		env[s.N] = vs[0]
	case api.SSet:
		m.vars[s.N] = vs[0]
	case api.SIf:
		if vs[0].N == 1 {
			return m.statements(env, s.Then)
		}
		return m.statements(env, s.Else)
	case api.SMatch:
		for _, arm := range s.Arms {
			if arm.N == -1 {
				return m.statements(env, arm.Then)
			}
			if arm.N == vs[0].N {
				for k := range vs[0].L {
					env[arm.M+k] = vs[0].L[k]
				}
				return m.statements(env, arm.Then)
			}
		}
		panic("no arm")
	case api.SFor:
		for _, v := range vs[0].L {
			if fault := m.fuel(); fault != 0 {
				return fault
			}
			env[s.N] = v
			if fault := m.statements(env, s.Then); fault != 0 {
				return fault
			}
		}
	case api.SStop:
		m.out.Stop = true
		return ended
	case api.SFail:
		m.out.Why = vs[0].S
		return api.FFail
	default:
		return m.output(env, s, vs)
	}
	return 0
}

func (m *model) output(env slots, s api.Stmt, vs []api.Value) int {
	if s.Op == api.SAfter && (vs[0].N < 1 || vs[0].N > 1048576) || s.Op == api.SSpawn && s.M == 1 && (vs[0].N < 0 || vs[0].N > 7) {
		return api.FIndex
	}
	count := len(m.out.Sends) + len(m.out.Timers) + len(m.out.Spawns) + len(m.out.Asks)
	path := m.c.Path + "." + strconv.Itoa(m.c.Kids+len(m.out.Spawns))
	if count == 64 || s.Op == api.SSpawn && len(path) > 200 {
		return api.FSize
	}
	switch s.Op {
	case api.SSend:
		m.out.Sends = append(m.out.Sends, api.Send{To: vs[0].S, Msg: s.S, Args: vs[1:]})
	case api.SAfter:
		m.out.Timers = append(m.out.Timers, api.Delay{Ticks: vs[0].N, To: vs[1].S, Msg: s.S, Args: vs[2:]})
	case api.SDo:
		m.out.Asks = append(m.out.Asks, api.Ask{Name: s.S, Args: vs, Reply: s.T})
	case api.SSpawn:
		made := api.Spawn{Actor: s.S, Args: vs, Node: -1}
		if s.M == 1 {
			made.Node, made.Args = vs[0].N, vs[1:]
		}
		m.out.Spawns = append(m.out.Spawns, made)
		if s.N != -1 {
			env[s.N] = reference(s.S, path)
		}
	}
	return 0
}

// modelEval is the model of Eval.
func modelEval(p api.Prog, fun int, args []api.Value) (api.Value, int, string) {
	if !core.Right(p) || fun < 0 || fun >= len(p.Funs) || !modelBelong(p, args, p.Funs[fun].Params) {
		return api.Value{}, api.FFail, "call"
	}
	m := &model{p: p, steps: map[int]int{}}
	v, fault := m.body(fun, args)
	return v, fault, ""
}
