package comp_test

import (
	"fmt"
	"slices"
	"strings"
	"testing"

	"retroact/api"
	"retroact/comp"
)

// tracer notes the operations of an invocation, without their values: each value is a constant, or has the number of its operation. What conditions, constructors and lists turn out to be is decided by the tests.
type tracer struct {
	done []string
	// choices are the decisions, of which those that are missing are false, and made counts them.
	choices []bool
	made    int
}

// do notes an operation, and returns its value.
func (r *tracer) do(what string, operands ...string) string {
	r.done = append(r.done, what+"("+strings.Join(operands, " ")+")")
	return fmt.Sprint("#", len(r.done))
}

// decide notes a decision.
func (r *tracer) decide(what string, operands ...string) bool {
	yes := r.made < len(r.choices) && r.choices[r.made]
	r.made++
	r.do(fmt.Sprint(what, " ", yes), operands...)
	return yes
}

func constant(v api.Value) string { return printed(v) }

func (r *tracer) exprs(xs []api.Expr) []string {
	var l []string
	for _, x := range xs {
		l = append(l, r.expr(x))
	}
	return l
}

func (r *tracer) expr(x api.Expr) string {
	switch x.Op {
	case api.XUnit, api.XBool, api.XInt, api.XText:
		return constant(constantOf(x))
	case api.XIf:
		if r.decide("is true", r.expr(x.Kids[0])) {
			return r.expr(x.Kids[1])
		}
		return r.expr(x.Kids[2])
	case api.XAnd:
		if r.decide("is true", r.expr(x.Kids[0])) {
			return r.expr(x.Kids[1])
		}
		return constant(constantOf(expr("bool0")))
	case api.XOr:
		if r.decide("is true", r.expr(x.Kids[0])) {
			return constant(constantOf(expr("bool1")))
		}
		return r.expr(x.Kids[1])
	case api.XLet:
		r.do(fmt.Sprint("store ", x.N), r.expr(x.Kids[0]))
		return r.expr(x.Kids[1])
	case api.XMatch:
		v := r.expr(x.Kids[0])
		arm := r.arm(len(x.Kids)-1, v, func(k int) (int, int) { return x.Kids[1+k].N, x.Kids[1+k].M })
		return r.expr(x.Kids[1+arm].Kids[0])
	case api.XNot, api.XNeg, api.XAdd, api.XSub, api.XMul, api.XDiv, api.XMod, api.XCat, api.XEq, api.XNe, api.XLt, api.XLe, api.XGt, api.XGe:
		return r.do(fmt.Sprint("operator ", x.Op), r.exprs(x.Kids)...)
	default:
		return r.do(exprNames()[x.Op]+fmt.Sprint(x.N, x.S), r.exprs(x.Kids)...)
	}
}

// arm returns the arm that the decisions lead to, after its arguments have been bound.
func (r *tracer) arm(count int, v string, get func(k int) (int, int)) int {
	at := 0
	for ; at < count-1; at++ {
		if ctor, _ := get(at); r.decide(fmt.Sprint("has constructor ", ctor), v) {
			break
		}
	}
	if ctor, slot := get(at); ctor != -1 {
		r.do(fmt.Sprint("bind ", slot), v)
	}
	return at
}

// block reports whether the handler goes on behind the statements.
func (r *tracer) block(l []api.Stmt) bool {
	for _, s := range l {
		if !r.stmt(s) {
			return false
		}
	}
	return true
}

func (r *tracer) stmt(s api.Stmt) bool {
	xs := r.exprs(s.Xs)
	switch s.Op {
	case api.SLet:
		r.do(fmt.Sprint("store ", s.N), xs...)
	case api.SSet:
		r.do(fmt.Sprint("set ", s.N), xs...)
	case api.SIf:
		if r.decide("is true", xs...) {
			return r.block(s.Then)
		}
		return r.block(s.Else)
	case api.SMatch:
		return r.block(s.Arms[r.arm(len(s.Arms), xs[0], func(k int) (int, int) { return s.Arms[k].N, s.Arms[k].M })].Then)
	case api.SFor:
		for r.decide("has more", xs...) {
			r.do(fmt.Sprint("next ", s.N), xs...)
			if !r.block(s.Then) {
				return false
			}
		}
	case api.SSpawn:
		v := r.do(fmt.Sprint("spawn ", s.S, " ", s.M), xs...)
		if s.N != -1 {
			r.do(fmt.Sprint("store ", s.N), v)
		}
	case api.SStop:
		r.do("stop")
		return false
	case api.SFail:
		r.do("fail", xs...)
		return false
	default:
		r.do(fmt.Sprint(stmtNames()[s.Op], " ", s.S, " ", s.T), xs...)
	}
	return true
}

// stack executes code with the values of a tracer.
type stack struct {
	*tracer
	values []string
}

func (k *stack) pop(count int) []string {
	rest := len(k.values) - count
	l := slices.Clone(k.values[rest:])
	k.values = k.values[:rest]
	return l
}

func (k *stack) push(v string) { k.values = append(k.values, v) }

// operation notes an operation with some values, and pushes its own.
func (k *stack) operation(what string, count int) { k.push(k.do(what, k.pop(count)...)) }

// run executes an entry, and checks the depths of its instructions.
func (k *stack) run(t *testing.T, c api.Code, at int, depths []int) {
	for at >= 0 {
		if depths[at] != len(k.values) {
			t.Errorf("the instruction %d has depth %d, not %d", at, len(k.values), depths[at])
		}
		at = k.step(c, c.Ins[at], at)
	}
}

// step executes an instruction and returns the next one, or -1 at the end.
func (k *stack) step(c api.Code, i api.Ins, at int) int {
	simple := map[int]string{comp.ILocal: "local", comp.IState: "state", comp.IGet: "get", comp.IWith: "with", comp.IUnary: "operator ", comp.IBinary: "operator ", comp.IPrim: "prim"}
	switch i.Op {
	case comp.IConst:
		k.push(constant(c.Consts[i.A]))
	case comp.ILocal, comp.IState:
		k.operation(fmt.Sprint(simple[i.Op], i.A), 0)
	case comp.ISelf:
		k.operation("self0", 0)
	case comp.IStore:
		k.do(fmt.Sprint("store ", i.A), k.pop(1)...)
	case comp.ISet:
		k.do(fmt.Sprint("set ", i.A), k.pop(1)...)
	case comp.IMake:
		v := c.Consts[i.A]
		k.operation(map[int]string{api.VList: "list", api.VRec: "rec", api.VVar: "ctor", api.VFun: "fun"}[v.Kind]+fmt.Sprint(v.N, v.T), i.B)
	case comp.IGet, comp.IUnary:
		k.operation(fmt.Sprint(simple[i.Op], i.A), 1)
	case comp.IWith, comp.IBinary:
		k.operation(fmt.Sprint(simple[i.Op], i.A), 2)
	case comp.IPrim:
		k.operation(fmt.Sprint(simple[i.Op], i.A), []int{api.PLen: 1, api.PAt: 2, api.PPut: 3, api.PSlice: 3, api.PSize: 1, api.PSub: 3, api.PShow: 1}[i.A])
	case comp.ICase:
		if !k.decide(fmt.Sprint("has constructor ", i.A), k.values[len(k.values)-1]) {
			return i.B
		}
	case comp.IBind:
		k.do(fmt.Sprint("bind ", i.A), k.pop(1)...)
	case comp.IPop:
		k.pop(1)
	case comp.ICall:
		k.operation(fmt.Sprint("call", i.A), i.B)
	case comp.IApply:
		k.operation("apply0", i.A+1)
	default:
		return k.control(c, i, at)
	}
	return at + 1
}

func (k *stack) control(c api.Code, i api.Ins, at int) int {
	switch i.Op {
	case comp.IJump:
		return i.A
	case comp.IFalse, comp.ITrue:
		if k.decide("is true", k.pop(1)...) == (i.Op == comp.ITrue) {
			return i.A
		}
	case comp.INext:
		list := k.values[len(k.values)-2]
		if !k.decide("has more", list) {
			k.pop(2)
			return i.A
		}
		k.do(fmt.Sprint("next ", i.B), list)
	case comp.ISend:
		k.do(fmt.Sprint("send ", c.Names[i.A], " "), k.pop(i.B+1)...)
	case comp.IAfter:
		k.do(fmt.Sprint("after ", c.Names[i.A], " "), k.pop(i.B+2)...)
	case comp.ISpawn:
		k.operation(fmt.Sprint("spawn ", c.Names[i.A], " ", i.B%2), i.B/2+i.B%2)
	case comp.IAsk:
		l := k.pop(i.B + 1)
		k.do(fmt.Sprint("do ", c.Names[i.A], " ", textOf(l[i.B], c)), l[:i.B]...)
	case comp.IReturn:
		return k.end("return", 1)
	case comp.IInit:
		return k.end("init", i.A)
	case comp.IFail:
		return k.end("fail", 1)
	case comp.IStop:
		return k.end("stop", 0)
	default:
		return k.end("end", 0)
	}
	return at + 1
}

// textOf returns the text that a constant stands for.
func textOf(value string, c api.Code) string {
	for _, v := range c.Consts {
		if constant(v) == value {
			return v.S
		}
	}
	return "no constant"
}

func (k *stack) end(what string, count int) int {
	k.do(what, k.pop(count)...)
	return -1
}

// traced is what an entry does according to the program.
type traced struct {
	name string
	at   int
	run  func(r *tracer)
}

func tracedEntries(p api.Prog, c api.Code) []traced {
	var l []traced
	for k, f := range p.Funs {
		l = append(l, traced{fmt.Sprint("function ", k), c.Funs[k].At, func(r *tracer) { r.do("return", r.expr(f.Body)) }})
	}
	on := 0
	for _, a := range p.Actors {
		l = append(l, traced{"initializer " + a.Name, c.Ons[on].At, func(r *tracer) {
			var vs []string
			for _, v := range a.Vars {
				vs = append(vs, r.expr(v.Init))
			}
			r.do("init", vs...)
		}})
		on++
		for _, h := range a.On {
			l = append(l, traced{"handler " + h.Msg, c.Ons[on].At, func(r *tracer) {
				if r.block(h.Body) {
					r.do("end")
				}
			}})
			on++
		}
	}
	return l
}

// sameTrace compares what a program and its code do for some decisions, and returns how many there were.
func sameTrace(t *testing.T, c api.Code, depths []int, e traced, choices []bool) int {
	t.Helper()
	want := &tracer{choices: choices}
	e.run(want)
	got := &stack{tracer: &tracer{choices: choices}}
	got.run(t, c, e.at, depths)
	if !slices.Equal(got.done, want.done) {
		t.Errorf("%s with %v:\n%.2000s\nwant:\n%.2000s", e.name, choices, strings.Join(got.done, "\n"), strings.Join(want.done, "\n"))
	}
	return want.made
}

// next returns the next list of decisions, of which so many were made, up to a number, or false after the last one.
func next(choices []bool, made, limit int) ([]bool, bool) {
	l := slices.Clone(choices)
	for len(l) < min(made, limit) {
		l = append(l, false)
	}
	l = l[:min(made, limit)]
	for len(l) > 0 && l[len(l)-1] {
		l = l[:len(l)-1]
	}
	if len(l) == 0 {
		return nil, false
	}
	l[len(l)-1] = true
	return l, true
}

// behaves compares a program and its code for all lists of decisions up to a length.
func behaves(t *testing.T, p api.Prog, limit int) int {
	t.Helper()
	c := comp.Compile(valid(t, p))
	depths, ok := comp.Depths(c)
	if !ok {
		t.Errorf("code that is not valid: %s", listing(c))
		return 0
	}
	runs := 0
	for _, e := range tracedEntries(p, c) {
		var choices []bool
		for more := true; more; runs++ {
			choices, more = next(choices, sameTrace(t, c, depths, e, choices), limit)
		}
	}
	return runs
}

// P14.4: the code of programs by hand performs their operations in their order, whatever the first decisions are.
func TestOperationsOfCode(t *testing.T) {
	runs := 0
	for _, x := range []string{
		"add(if(local5 local0 neg(local0)) match(local4 arm0/7(local7) arm1/7(prim5(local8)) arm2/7(local0)))", "if(and(or(local5 not(local5)) or(local5 and(local5 local5))) add(local0 int1) let7(local0 local7))",
		"match(match(local4 arm2/7(local4) arm0/8(ctor0'V'(local8)) arm-1(local4)) arm1/7(get0(local7)) arm-1(if(local5 match(local4 arm0/9(local9) arm-1(int5)) call1(local0 local1))))",
		"apply(fun2(if(local5 local0 int1) prim7(local0)) prim2(list(local0 if(local5 int1 int2) int3) int0))", "let7(and(local5 local5) let8(or(local7 local5) if(local8 int1 if(local7 int2 int3))))", "if(if(if(local5 local5 bool1) local5 bool0) mul(local0 local0) get0(with0(local3 local0)))",
		"match(local4 arm2/7(match(local4 arm2/7(match(local4 arm2/7(int1) arm1/7(int2) arm0/7(int3))) arm1/7(int4) arm0/7(int5))) arm1/7(int6) arm0/7(int7))",
	} {
		runs += behaves(t, withFun("int", expr(x)), 12)
	}
	for _, s := range []string{
		"for5(local1)then{set0(local5) for6(list(local5 state0))then{if(lt(local6 local5))then{stop} set0(add(state0 local6))} send'Do'(local3 state0 text'a')} do'ask''Ok'", "match(local2)arms{arm0/5then{for6(local1)then{match(local2)arms{arm1/7then{set0(local6)} arm-1then{fail(text'x')}}} set0(local5)} arm1/5then{set0(int1) stop} arm2/5}",
		"if(local4)then{if(local4)then{spawn5'W'(local0 text'a') send'End'(local5)}else{spawn-1/1'W'(int3 local0 text'b')}}else{if(local4)else{after'Ok'(local0 self local4)} set0(if(local4 state0 int1))} do'pay''Ok'(state0 prim7(local0)) let5(local0)",
		"for5(local1) for6(local1)then{for7(state1)then{for8(state1)then{set1(prim4(local1 local7 local8))}}} set0(int1)", "for5(local1)then{match(local2)arms{arm-1then{if(local4)then{for6(local1)}else{stop}}}}",
	} {
		runs += behaves(t, withBody(s), 12)
	}
	runs += behaves(t, several(), 12)
	if runs < 1000 {
		t.Errorf("only %d runs", runs)
	}
}

// P14.4: the code of arbitrary programs does so for arbitrary decisions.
func TestArbitraryOperations(t *testing.T) {
	parallel(600, func(m maker, k int) {
		p := m.program()
		c := comp.Compile(p)
		depths, ok := comp.Depths(c)
		if !ok {
			t.Errorf("program %d: the code is not valid", k)
			return
		}
		for _, e := range tracedEntries(p, c) {
			for range 5 {
				choices := make([]bool, m.Intn(60))
				often := 1 + m.Intn(3)
				for j := range choices {
					choices[j] = m.Intn(often+1) < often
				}
				sameTrace(t, c, depths, e, choices)
			}
		}
	})
}
