package check_test

import (
	"slices"
	"testing"

	"retroact/api"
)

// shownFuns shows the functions from a number on.
func shownFuns(p api.Prog, from int) []string {
	var l []string
	for _, f := range p.Funs[from:] {
		l = append(l, showFun(f))
	}
	return l
}

func expectFuns(t *testing.T, s string, p api.Prog, from int, want ...string) {
	t.Helper()
	if got := shownFuns(p, from); !slices.Equal(got, want) {
		t.Errorf("%s: %q; want %q", s, got, want)
	}
}

// P10.1: closures in functions: what they capture, its order, and the functions that they become.
func TestClosures(t *testing.T) {
	for _, x := range []struct {
		source string
		want   []string
	}{
		// The example of the chapter.
		{"fun inc(n: int): fun(int): int = fun(x: int): int = x + n", []string{"inc(n: int): fun(int): int 1 = fun5(local0)", "(n: int, x: int): int 2 = add(local1 local0)"}},
		{"fun t(): fun(): int = fun(): int = 1", []string{"t(): fun(): int 0 = fun5", "(): int 0 = int1"}},
		{"fun t(a: int): fun(int): int = fun(x: int): int = x", []string{"t(a: int): fun(int): int 1 = fun5", "(x: int): int 1 = local0"}},
		// Functions and primitive functions are not captured.
		{"fun t(a: int): fun([int]): int = fun(l: [int]): int = f(len(l)) + t(1)([])", []string{"t(a: int): fun([int]): int 1 = fun5", "(l: [int]): int 1 = add(call0(prim1(local0)) apply(call4(int1) list))"}},
		// The same name twice, and the order of the first occurrence in pre-order.
		{"fun t(a: int, b: int, c: int): fun(): int = fun(): int = c + a + c + a", []string{"t(a: int, b: int, c: int): fun(): int 3 = fun5(local2 local0)", "(c: int, a: int): int 2 = add(add(add(local0 local1) local0) local1)"}},
		{"fun t(a: int, g: fun(int): int, p: P): fun(): P = fun(): P = p with { y = [a], x = g(a) }", []string{"t(a: int, g: fun(int): int, p: P): fun(): P 3 = fun5(local2 local0 local1)", "(p: P, a: int, g: fun(int): int): P 3 = with0(with1(local0 list(local1)) apply(local2 local1))"}},
		{"fun t(a: int, g: fun(int): int): fun(): P = fun(): P = P { y = [g(a)], x = a }", []string{"t(a: int, g: fun(int): int): fun(): P 2 = fun5(local1 local0)", "(g: fun(int): int, a: int): P 2 = rec'P'(local1 list(apply(local0 local1)))"}},
		// Names that are bound within, in a part of the body alone as well.
		{"fun t(x: int, y: int): fun(int): int = fun(x: int): int = x + y", []string{"t(x: int, y: int): fun(int): int 2 = fun5(local1)", "(y: int, x: int): int 2 = add(local1 local0)"}},
		{"fun t(x: int, y: int): fun(): int = fun(): int = let x = 1 in x", []string{"t(x: int, y: int): fun(): int 2 = fun5", "(): int 1 = let0(int1 local0)"}},
		{"fun t(x: int): fun(): int = fun(): int = let x = x in x", []string{"t(x: int): fun(): int 1 = fun5(local0)", "(x: int): int 2 = let1(local0 local1)"}},
		{"fun t(x: int, y: int): fun(): int = fun(): int = y + (let x = 1 in x) + x", []string{"t(x: int, y: int): fun(): int 2 = fun5(local1 local0)", "(y: int, x: int): int 3 = add(add(local0 let2(int1 local2)) local1)"}},
		{"fun t(x: int, v: V): fun(): int = fun(): int = match v { A(x) => x, B(v, _) => v.x, C => 0 }", []string{"t(x: int, v: V): fun(): int 2 = fun5(local1)", "(v: V): int 3 = match(local0 arm0/1(local1) arm1/1(get0(local1)) arm2/1(int0))"}},
		{"fun t(x: int, v: V): fun(): int = fun(): int = match v { A(x) => x, _ => x }", []string{"t(x: int, v: V): fun(): int 2 = fun5(local1 local0)", "(v: V, x: int): int 3 = match(local0 arm0/2(local2) arm-1/2(local1))"}},
		// The name of a field, a type or a constructor is no name of a variable.
		{"fun t(x: int, y: int, q: P): fun(): int = fun(): int = (q with { x = 1 }).x", []string{"t(x: int, y: int, q: P): fun(): int 3 = fun5(local2)", "(q: P): int 1 = get0(with0(local0 int1))"}},
		// The innermost of two hidden bindings is captured, and hidden slots count where the closure stands.
		{"fun t(x: int): fun(): text = let x = \"\" in fun(): text = x", []string{"t(x: int): fun(): text 2 = let1(text'' fun5(local1))", "(x: text): text 1 = local0"}},
		{"fun t(v: T): fun(): int = match v { T(_, k, k) => fun(): int = k }", []string{"t(v: T): fun(): int 4 = match(local0 arm0/1(fun5(local3)))", "(k: int): int 1 = local0"}},
		// A local binding that has the name of a function is captured.
		{"fun t(f: fun(): int, len: int): fun(): int = fun(): int = f() + len", []string{"t(f: fun(): int, len: int): fun(): int 2 = fun5(local0 local1)", "(f: fun(): int, len: int): int 2 = add(apply(local0) local1)"}},
		{"fun t(a: int): int = (fun(x: int): int = x + a)(a)", []string{"t(a: int): int 1 = apply(fun5(local0) local0)", "(a: int, x: int): int 2 = add(local1 local0)"}},
		// The slots of the body behind the captured variables and the parameters.
		{"fun t(a: int): fun(int, int): int = fun(x: int, y: int): int = let z = a in z + y", []string{"t(a: int): fun(int, int): int 1 = fun5(local0)", "(a: int, x: int, y: int): int 4 = let3(local0 add(local3 local2))"}},
	} {
		expectFuns(t, x.source, checked(t, decls+x.source), 4, x.want...)
	}
}

// P10.1: closures in closures: an outer one captures what an inner one uses, and comes before it.
func TestNestedClosures(t *testing.T) {
	for _, x := range []struct {
		source string
		want   []string
	}{
		{"fun t(a: int, b: int): fun(int): fun(int): int = fun(x: int): fun(int): int = fun(y: int): int = y + b + x + b", []string{
			"t(a: int, b: int): fun(int): fun(int): int 2 = fun5(local1)", "(b: int, x: int): fun(int): int 2 = fun6(local0 local1)", "(b: int, x: int, y: int): int 3 = add(add(add(local2 local0) local1) local0)"}},
		{"fun t(a: int): fun(): fun(): fun(): int = fun(): fun(): fun(): int = fun(): fun(): int = fun(): int = a", []string{
			"t(a: int): fun(): fun(): fun(): int 1 = fun5(local0)", "(a: int): fun(): fun(): int 1 = fun6(local0)", "(a: int): fun(): int 1 = fun7(local0)", "(a: int): int 1 = local0"}},
		{"fun t(a: int, b: int): fun(): int = fun(): int = (fun(b: int): int = b + a)(b) + a", []string{
			"t(a: int, b: int): fun(): int 2 = fun5(local0 local1)", "(a: int, b: int): int 2 = add(apply(fun6(local0) local1) local0)", "(a: int, b: int): int 2 = add(local1 local0)"}},
		{"fun t(a: int, b: int): fun(): int = fun(): int = (fun(b: int): int = b + a)(a) + (let a = b in a)", []string{
			"t(a: int, b: int): fun(): int 2 = fun5(local0 local1)", "(a: int, b: int): int 3 = add(apply(fun6(local0) local0) let2(local1 local2))", "(a: int, b: int): int 2 = add(local1 local0)"}},
		{"fun t(): [fun(): fun(): int] = [fun(): fun(): int = fun(): int = 1, fun(): fun(): int = fun(): int = 2]", []string{
			"t(): [fun(): fun(): int] 0 = list(fun5 fun7)", "(): fun(): int 0 = fun6", "(): int 0 = int1", "(): fun(): int 0 = fun8", "(): int 0 = int2"}},
		{"fun t(x: int): fun(): int = fun(): int = let y = x in (fun(): int = let x = y in (fun(): int = x + y)())()", []string{
			"t(x: int): fun(): int 1 = fun5(local0)", "(x: int): int 2 = let1(local0 apply(fun6(local1)))", "(y: int): int 2 = let1(local0 apply(fun7(local1 local0)))", "(x: int, y: int): int 2 = add(local0 local1)"}},
		{"fun t(a: int, b: P): fun(): P = fun(): P = P { y = [(fun(): int = a)()], x = (fun(): int = b.x)() }", []string{
			"t(a: int, b: P): fun(): P 2 = fun5(local0 local1)", "(a: int, b: P): P 2 = rec'P'(apply(fun7(local1)) list(apply(fun6(local0))))", "(a: int): int 1 = local0", "(b: P): int 1 = get0(local0)"}},
	} {
		expectFuns(t, x.source, checked(t, decls+x.source), 4, x.want...)
	}
	s := decls + "fun t(): fun(): int = fun(): int = 1 actor X() { state a: int = (fun(): int = 2)() on M() { a = (fun(): int = 3)() } state b: int = (fun(): int = 4)() } fun u(): fun(): int = fun(): int = 5"
	expectFuns(t, s, checked(t, s), 4, "t(): fun(): int 0 = fun6", "u(): fun(): int 0 = fun10", "(): int 0 = int1", "(): int 0 = int2", "(): int 0 = int3", "(): int 0 = int4", "(): int 0 = int5")
}

// P10.1: closures in state members and handlers, which capture state variables and the reference to the actor as well.
func TestActorClosures(t *testing.T) {
	for _, x := range []struct {
		init, stmts, wantInit, want string
		funs                        []string
	}{
		{"(fun(x: int): int = x + a)(1)", "", "apply(fun4(local0) int1)", "", []string{"(a: int, x: int): int 2 = add(local1 local0)"}},
		{"(let r = fun(): ref Q = self in a)", "", "let1(fun4(self) local0)", "", []string{"(self: ref Q): ref Q 1 = local0"}},
		{"len([fun(): ref Q = let b = a in self])", "", "prim1(list(fun4(local0 self)))", "", []string{"(a: int, self: ref Q): ref Q 3 = let2(local0 local1)"}},
		{"1", "let k = fun(): int = s", "int1", "let2(fun4(state0))", []string{"(s: int): int 1 = local0"}},
		{"1", "let k = fun(m: int): ref Q = (let z = s + m + n + s in self) send k(1) Yes(true)", "int1", "let2(fun4(state0 local0 self)) send'Yes'(apply(local2 int1) bool1)",
			[]string{"(s: int, n: int, self: ref Q, m: int): ref Q 5 = let4(add(add(add(local0 local3) local1) local0) local2)"}},
		{"1", "let s = \"\" let k = fun(): text = s ++ at(l, 0)", "int1", "let2(text'') let3(fun4(local2 state1))", []string{"(s: text, l: [text]): text 2 = cat(local0 prim2(local1 int0))"}},
		{"1", "let k = fun(l: int): int = l + s", "int1", "let2(fun4(state0))", []string{"(s: int, l: int): int 2 = add(local1 local0)"}},
		{"1", "let k = fun(): fun(): ref Q = fun(): ref Q = if s < n then self else k2", "", "", nil},
		{"1", "let k = fun(): fun(): ref Q = fun(): ref Q = if s < n then self else self", "int1", "let2(fun4(state0 local0 self))",
			[]string{"(s: int, n: int, self: ref Q): fun(): ref Q 3 = fun5(local0 local1 local2)", "(s: int, n: int, self: ref Q): ref Q 3 = if(lt(local0 local1) local2 local2)"}},
		{"1", "for i in [1] { let k = fun(): int = i + n s = k() }", "int1", "for2(list(int1))then{let3(fun4(local2 local0)) set0(apply(local3))}", []string{"(i: int, n: int): int 2 = add(local0 local1)"}},
		{"1", "match A(n) { A(i) { let k = fun(): int = i + s } _ { } }", "int1", "match(ctor0'V'(local0))arms{arm0/2then{let3(fun4(local2 state0))} arm-1/2}", []string{"(i: int, s: int): int 2 = add(local0 local1)"}},
		{"1", "let q = spawn Q(1) let k = fun(): [ref Q] = [q, self]", "int1", "spawn2/0'Q'(int1) let3(fun4(local2 self))", []string{"(q: ref Q, self: ref Q): [ref Q] 2 = list(local0 local1)"}},
		// The order is that of the source, also where the core language has another one.
		{"1", "spawn Q((fun(): int = 1)()) on (fun(): int = 2)()", "int1", "spawn-1/1'Q'(apply(fun5) apply(fun4))", []string{"(): int 0 = int1", "(): int 0 = int2"}},
		{"1", "after (fun(): int = 1)() send (fun(): ref Q = self)() Go((fun(): int = 3)(), w)", "int1", "after'Go'(apply(fun4) apply(fun5(self)) apply(fun6) local1)", []string{"(): int 0 = int1", "(self: ref Q): ref Q 1 = local0", "(): int 0 = int3"}},
	} {
		s := placed(around, x.init, x.stmts)
		if x.funs == nil {
			failsAt(t, api.ErrName, s, "k2")
			continue
		}
		p := checked(t, s)
		a := p.Actors[2]
		if got := show(a.Vars[0].Init); got != x.wantInit {
			t.Errorf("%s: %s", s, got)
		}
		if got := showBlock(a.On[0].Body); got != x.want {
			t.Errorf("%s: %s; want %s", s, got, x.want)
		}
		expectFuns(t, s, p, 4, x.funs...)
	}
}
