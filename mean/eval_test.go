package mean_test

import (
	"math"
	"testing"

	"retroact/api"
	"retroact/mean"
	"retroact/value"
)

// funs is a program with functions of several parameters.
const funs = `
record P { x: int, y: [int] } variant V { A(int), B(P, text), C }
fun zero(): unit = ()
fun pair(a: int, b: text): P = P { x = a, y = [size(b)] }
fun use(g: fun(int): int, n: int): int = g(n)
fun inc(n: int): int = n + 1
fun add(k: int): fun(int): int = fun(n: int): int = n + k
fun far(v: V, l: [P], r: ref Main): V = match v { A(n) => B(at(l, n), "x"), _ => v }
fun same(r: ref Main): ref Main = r
fun deep(l: [fun(int): int]): int = at(l, 0)(5)
actor Main() { on Go() { } }`

// The indices of the functions of funs. The closure captures k.
const (
	funZero = iota
	funPair
	funUse
	funInc
	funAdd
	funFar
	funSame
	funDeep
	funClosure
)

// P13.3: the values of functions, with arguments of all sorts of types.
func TestEval(t *testing.T) {
	p := compiled(t, funs)
	for _, c := range []struct {
		fun   int
		args  []api.Value
		want  api.Value
		fault int
	}{
		{funZero, nil, unit(), 0}, {funZero, []api.Value{}, unit(), 0}, {funPair, plains("3", `"abc"`), plain("P{3, [3]}"), 0}, {funInc, plains("-1"), plain("0"), 0}, {funInc, plains("9007199254740992"), api.Value{}, api.FOver}, {funInc, plains("9007199254740991"), integer(api.MaxNum), 0},
		{funUse, []api.Value{closure(funInc), integer(4)}, integer(5), 0}, {funUse, []api.Value{closure(funClosure, integer(10)), integer(4)}, integer(14), 0}, {funAdd, plains("7"), closure(funClosure, integer(7)), 0}, {funClosure, plains("7", "8"), integer(15), 0},
		{funFar, plains("V#0(1)", "[P{1, []}, P{2, [3]}]", "Main@0.1"), plain(`V#1(P{2, [3]}, "x")`), 0}, {funFar, plains("V#0(2)", "[P{1, []}, P{2, [3]}]", "Main@0.1"), api.Value{}, api.FIndex}, {funFar, plains("V#2()", "[]", "Main@0"), plain("V#2()"), 0}, {funSame, plains("Main@0.5"), plain("Main@0.5"), 0},
		{funDeep, []api.Value{list(closure(funInc))}, integer(6), 0}, {funDeep, []api.Value{list(closure(funClosure, integer(1)), closure(funInc))}, integer(6), 0}, {funDeep, []api.Value{list()}, api.Value{}, api.FIndex},
		// A closure may call the function that it is given to.
		{funUse, []api.Value{closure(funUse, closure(funInc)), integer(4)}, integer(5), 0},
	} {
		v, fault, why := mean.Eval(p, c.fun, c.args)
		if printed(v) != printed(c.want) || fault != c.fault || why != "" || !value.Equal(v, c.want) {
			t.Errorf("function %d of %s: %s, fault %d, %q; want %s, fault %d", c.fun, printed(c.args), printed(v), fault, why, printed(c.want), c.fault)
		}
		if w, f, why := modelEval(p, c.fun, c.args); printed(w) != printed(c.want) || f != c.fault || why != "" {
			t.Errorf("function %d of %s: the model gives %s, fault %d", c.fun, printed(c.args), printed(w), f)
		}
	}
}

// refuses checks that Eval refuses what it is given.
func refuses(t *testing.T, p api.Prog, fun int, args []api.Value, message any) {
	t.Helper()
	if v, fault, why := mean.Eval(p, fun, args); printed(v) != printed(api.Value{}) || fault != api.FFail || why != "call" {
		t.Errorf("%v: function %d of %s: %s, fault %d, %q", message, fun, shortened(args), shortened(v), fault, why)
	}
}

// P13.3: each reason to refuse, by itself.
func TestEvalRefuses(t *testing.T) {
	p := compiled(t, funs)
	for _, fun := range []int{-1, -2, math.MinInt, funClosure + 1, funClosure + 2, 1 << 40, math.MaxInt} {
		refuses(t, p, fun, nil, "no function")
		refuses(t, p, fun, plains("1"), "no function")
	}
	for fun, args := range map[int][]api.Value{
		funZero: nil, funPair: plains("1", `"a"`), funUse: {closure(funInc), integer(4)}, funInc: plains("1"), funAdd: plains("7"), funFar: plains("V#0(0)", "[P{1, [2]}]", "Main@0.1"), funSame: plains("Main@0"), funDeep: {list(closure(funInc))}, funClosure: plains("7", "8"),
	} {
		if _, fault, why := mean.Eval(p, fun, args); fault != 0 || why != "" {
			t.Errorf("function %d: fault %d, %q", fun, fault, why)
		}
		for _, v := range append(wrong(), integer(1), text("a"), unit()) {
			if v.Kind == api.VFun {
				continue
			}
			refuses(t, p, fun, append(append([]api.Value{}, args...), v), "one more")
			refuses(t, p, fun, append([]api.Value{v}, args...), "one more at the beginning")
			for k := range args {
				l := append([]api.Value{}, args...)
				if l[k] = v; printed(args[k].Kind) != printed(v.Kind) || !value.Right(v) {
					refuses(t, p, fun, l, "another value")
				}
			}
		}
		for k := range args {
			refuses(t, p, fun, args[:k], "fewer")
			refuses(t, p, fun, args[k+1:], "fewer at the beginning")
		}
	}
	for _, f := range []api.Value{closure(-1), closure(funClosure + 1), closure(funClosure), closure(funClosure, text("a")), closure(funInc, integer(1)), closure(funPair), closure(funAdd), closure(funSame), closure(funZero), integer(funInc)} {
		refuses(t, p, funUse, []api.Value{f, integer(1)}, "a closure of another type")
	}
}

// P13.3: a span is refused at each depth of the arguments, although it belongs to the type int (12).
func TestEvalRefusesSpans(t *testing.T) {
	p := compiled(t, funs)
	s := span(0, 1)
	for _, c := range []struct {
		fun  int
		args []api.Value
	}{
		{funInc, []api.Value{s}}, {funInc, []api.Value{span(-api.MaxNum, api.MaxNum)}}, {funAdd, []api.Value{s}}, {funClosure, []api.Value{s, integer(1)}}, {funClosure, []api.Value{integer(1), s}}, {funPair, []api.Value{s, text("")}},
		{funUse, []api.Value{closure(funInc), s}}, {funUse, []api.Value{closure(funClosure, s), integer(1)}}, {funDeep, []api.Value{list(closure(funClosure, s))}}, {funDeep, []api.Value{list(closure(funInc), closure(funClosure, s))}},
		{funFar, []api.Value{variant("V", 0, s), list(), plain("Main@0")}}, {funFar, []api.Value{variant("V", 1, record("P", integer(1), list(integer(2), s)), text("")), list(), plain("Main@0")}}, {funFar, []api.Value{variant("V", 2), list(record("P", s, list())), plain("Main@0")}},
	} {
		for k, v := range c.args {
			if !value.Fits(p, v, p.Funs[c.fun].Params[k].Type) {
				t.Errorf("%s does not belong to its type", printed(v))
			}
		}
		refuses(t, p, c.fun, c.args, "a span")
	}
}

// P13.3: nothing is evaluated in a program that is not valid.
func TestEvalInvalidPrograms(t *testing.T) {
	for k, change := range []func(p *api.Prog){
		func(p *api.Prog) { *p = api.Prog{} }, func(p *api.Prog) { p.Actors = nil }, func(p *api.Prog) { p.Actors[0].Name = "Other" }, func(p *api.Prog) { p.Actors = append(p.Actors, p.Actors[0]) },
		func(p *api.Prog) { p.Types = append(p.Types, p.Types[0]) }, func(p *api.Prog) { p.Funs[funAdd].Body = expr("int1") }, func(p *api.Prog) { p.Funs[funInc].Slots = 0 }, func(p *api.Prog) { p.Funs[funZero].Name = "inc" }, func(p *api.Prog) { p.Effects = []api.Effect{{Name: "E"}} },
	} {
		p := compiled(t, funs)
		change(&p)
		refuses(t, p, funInc, plains("1"), k)
		refuses(t, p, funZero, nil, k)
	}
}
