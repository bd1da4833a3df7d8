package check_test

import (
	"fmt"
	"strings"
	"testing"

	"retroact/api"
)

// showConv shows all fields of a converter: `2 Main.: [5 6]`, `3 W.Do>Go: [5]`.
func showConv(c api.Conv) string {
	s := fmt.Sprint(c.Kind, " ", c.Name, ".", c.Sub)
	if c.To != "" {
		s += ">" + c.To
	}
	return s + ": " + fmt.Sprint(append([]int{}, c.Funs...))
}

// patchDecls are decls with an actor type that has state variables; its number is 2.
const patchDecls = decls + "actor Q(a: int, b: text) { state x: int = a state y: [int] = [] state z: ref Q = self on Set(v: V) { } on None() { } } "

// P10.2: every sort of converter, and the functions that it becomes.
func TestConverters(t *testing.T) {
	for _, x := range []struct {
		source, conv string
		funs         []string
	}{
		{"convert type P(z: int) = P { x = z, y = [z] }", "1 P.P: [4]", []string{"(z: int): P 1 = rec'P'(local0 list(local0))"}},
		{"convert type Old() = C", "1 Old.Old: [4]", []string{"(): V 0 = ctor2'V'"}}, {"convert type Old(a: [int], b: ref W) = if true then A(len(a)) else C", "1 Old.Old: [4]", []string{"(a: [int], b: ref W): V 2 = if(bool1 ctor0'V'(prim1(local0)) ctor2'V')"}},
		{"convert type V.D(k: int, p: P) = B(p, show(k))", "1 V.D: [4]", []string{"(k: int, p: P): V 2 = ctor1'V'(local1 prim7(local0))"}}, {"convert type V.V(k: V) = k", "1 V.V: [4]", []string{"(k: V): V 1 = local0"}},
		{"convert type V(k: V) = let q = p() in match k { A(n) => q with { x = n }, _ => q }", "1 V.V: [4]", []string{"(k: V): P 3 = let1(call2 match(local0 arm0/2(with0(local1 local2)) arm-1/2(local1)))"}},
		{"convert type Old(x: int) = A((fun(y: int): int = y + x)(1))", "1 Old.Old: [4]", []string{"(x: int): V 1 = ctor0'V'(apply(fun5(local0) int1))", "(x: int, y: int): int 2 = add(local1 local0)"}},
		{"convert type Main(len: int, f: int) = A(len + f)", "1 Main.Main: [4]", []string{"(len: int, f: int): V 2 = ctor0'V'(add(local0 local1))"}},
		{"convert actor Main() { }", "2 Main.: []", nil}, {"convert actor W(x: int, s: text) { }", "2 W.: []", nil},
		// The functions are in the order of the variables.
		{"convert actor Q(c: int, r: ref Q) { z = r, x = c, y = [c] }", "2 Q.: [4 5 6]", []string{"(c: int, r: ref Q): int 2 = local0", "(c: int, r: ref Q): [int] 2 = list(local0)", "(c: int, r: ref Q): ref Q 2 = local1"}},
		{"convert actor Q(r: ref Q, x: int) { x = let y = x in y, y = [], z = (fun(): ref Q = r)() }", "2 Q.: [4 5 6]", []string{"(r: ref Q, x: int): int 3 = let2(local1 local2)", "(r: ref Q, x: int): [int] 2 = list", "(r: ref Q, x: int): ref Q 2 = apply(fun7(local0))", "(r: ref Q): ref Q 1 = local0"}},
		{"convert actor Q(r: ref Q) { z = (fun(): ref Q = r)(), y = [(fun(): int = 1)()], x = (fun(): int = 2)() }", "2 Q.: [4 6 8]", []string{"(r: ref Q): int 1 = apply(fun5)", "(): int 0 = int2", "(r: ref Q): [int] 1 = list(apply(fun7))", "(): int 0 = int1", "(r: ref Q): ref Q 1 = apply(fun9(local0))", "(r: ref Q): ref Q 1 = local0"}},
		{"convert message Q.Set(w: V) = Set(w)", "3 Q.Set>Set: [4]", []string{"(w: V): V 1 = local0"}}, {"convert message Q.Old() = None()", "3 Q.Old>None: []", nil}, {"convert message Q.Old(w: V) = None()", "3 Q.Old>None: []", nil},
		{"convert message Q.init(c: int) = init(c + 1, show(c))", "3 Q.init>init: [4 5]", []string{"(c: int): int 1 = add(local0 int1)", "(c: int): text 1 = prim7(local0)"}}, {"convert message Main.init(c: int) = init()", "3 Main.init>init: []", nil},
		{"convert message Q.Gone(c: int) = init(1, \"\")", "3 Q.Gone>init: [4 5]", []string{"(c: int): int 1 = int1", "(c: int): text 1 = text''"}}, {"convert message W.init() = Do(f(1), \"\")", "3 W.init>Do: [4 5]", []string{"(): int 0 = call0(int1)", "(): text 0 = text''"}},
		{"convert message W.Do(a: int) = Do((fun(): int = a)(), (fun(): text = show(a))())", "3 W.Do>Do: [4 6]", []string{"(a: int): int 1 = apply(fun5(local0))", "(a: int): int 1 = local0", "(a: int): text 1 = apply(fun7(local0))", "(a: int): text 1 = prim7(local0)"}},
	} {
		p := patched(t, patchDecls+x.source)
		if len(p.Convs) != 1 || len(p.Moves)+len(p.Drops) > 0 || showConv(p.Convs[0]) != x.conv {
			t.Errorf("%s: %+v", x.source, p.Convs)
		}
		expectFuns(t, x.source, p.Prog, 4, x.funs...)
	}
}

// P10.2: the results are in source order, and the functions of changes follow those of the declarations, wherever these stand.
func TestWholePatch(t *testing.T) {
	s := "drop Z convert type Old(x: int) = A(late(x)) move W to 7 " + patchDecls + "convert message W.Do(a: int) = Stop() move Main to 0 convert actor Main() { } drop V fun late(x: int): int = (fun(): int = x)() convert type Old.Old2() = C drop P"
	p := patched(t, s)
	expectFuns(t, s, p.Prog, 4, "late(x: int): int 1 = apply(fun5(local0))", "(x: int): int 1 = local0", "(x: int): V 1 = ctor0'V'(call4(local0))", "(): V 0 = ctor2'V'")
	var convs []string
	for _, c := range p.Convs {
		convs = append(convs, showConv(c))
	}
	if printed(convs) != "[1 Old.Old: [6] 3 W.Do>Stop: [] 2 Main.: [] 1 Old.Old2: [7]]" || printed(p.Moves) != "[{Actor:W Node:7} {Actor:Main Node:0}]" || printed(p.Drops) != "[Z V P]" {
		t.Errorf("%v %+v %v", convs, p.Moves, p.Drops)
	}
	for _, s := range []string{decls, patchDecls, decls + "fun t(): fun(): int = fun(): int = 1"} {
		if got, want := patched(t, s), checked(t, s); printed(got) != printed(api.Patch{Prog: want}) {
			t.Error("a patch without changes:", printed(got))
		}
	}
}

// P10.2: the errors of converters, moves and drops, in their order.
func TestChangeErrors(t *testing.T) {
	for e, l := range map[api.Errno][]string{
		api.ErrName: {
			"convert type Z(x: ^Z) = y", "convert type P(x: int, x: [fun(): ^ref Z]) = y", "convert type P(x: int, y: fun(^Z): Z2, x: Z3) = y", "convert type P(x: ^ref P) = y", "convert type P(x: ^Main) = y", "convert type P(x: fun(): int, y: ^Z) = y", "convert type P(x: int) = ^y", "convert type P(x: int) = P { ^z = 1 }", "convert type P() = ^D", "convert type P(x: int) = let r = ^self in C", "convert type P(q: int) = A(^x)",
			"^convert actor Z(x: Z2, x: int) { x = y, x = 1 }", "^convert actor P() { }", "^convert actor Old() { }", "convert actor Q(c: ^Z, c: int) { v = 1 }", "convert actor Q(c: fun(): ^ref Z) { v = 1 }", "convert actor Q() { ^v = 1, v = 2 }", "convert actor Q() { x = y, ^v = 1 }", "convert actor Q() { ^a = 1 }", "convert actor Main() { ^x = 1 }", "convert actor Q() { x = 1, y = [], z = ^self }", "convert actor Q() { z = z, y = y, x = ^x }", "convert actor Q(x: int) { z = z, y = ^y, x = x }",
			"^convert message Z.Do(x: Z2) = Nope(y)", "^convert message P.Do() = Do()", "convert message Q.Do(x: ^Z, x: int) = Nope(y)", "convert message Q.Do() = ^Nope(y)", "convert message W.Do() = ^Set(y)", "convert message Q.None() = ^Go()", "convert message Q.Do() = Set(^y)", "convert message Q.Set(v: V) = Set(^w)", "convert message Q.Old() = init(1, ^y)", "convert message Q.Old() = init(1, ^b)", "convert message Q.Old() = init(len([^self]), 1)",
			"^move Z to 1", "^move P to 1", "^move Old to 8", "^move Z to 9007199254740992",
		},
		api.ErrType: {
			"convert type P(x: ^fun(): int) = y", "convert type P(x: int, y: ^[fun(): int], x: fun(): int) = y", "convert type P(x: int) = ^x", "convert type P(x: [P]) = ^x", "convert type P(r: ref W) = ^r", "convert type P() = ^f", "convert type P() = ^fun(): V = C", "convert type P() = ^[]", "convert type P() = A(^true)", "convert type P() = ^()", "convert type P() = ^\"\"", "convert type P() = ^let k = 1 in 1",
			"convert actor Q(c: ^fun(): int, c: int) { v = 1 }", "convert actor Q() { z = y, y = 1, x = ^true }", "convert actor Q() { z = y, y = ^1, x = 1 }", "convert actor Q(r: ref W) { z = ^r, y = [], x = 1 }", "convert actor Q(x: int, y: ^[fun(): int], y: int) { v = 1 }",
			"convert message Q.Do(x: ^fun(): int, x: int) = Nope(y)", "convert message Q.Do() = ^Set()", "convert message Q.Do() = ^Set(y, y)", "convert message Q.Do() = ^None(y)", "convert message Q.Do() = Set(^1)", "convert message Q.Do() = ^init(y)", "convert message Q.init() = ^init()", "convert message Main.init() = ^init(y)", "convert message Q.init() = init(^true, y)", "convert message Q.init() = init(1, ^2)",
		},
		api.ErrTwice: {
			"convert type P(x: int, ^x: int) = y", "convert type P(x: int, y: int, ^y: int, x: int) = y", "convert actor Q(x: int, ^x: text) { v = 1 }", "convert actor Q() { x = y, ^x = 1, v = 1 }", "convert actor Q() { y = 1, x = 1, ^y = 1 }", "convert message Q.Do(x: int, ^x: text) = Nope(y)",
		},
		api.ErrNeed: {
			"^convert actor Q() { }", "^convert actor Q() { x = true }", "^convert actor Q() { z = q, x = q }", "^convert actor Q(x: int) { x = 1, y = 2 }", "convert type P() = ^P { x = 1 }", "convert type P() = ^match v() { C => C }",
		},
		api.ErrRange: {
			"^move W to 8", "^move Main to 9", "^move Q to 9007199254740992",
		},
	} {
		for _, s := range l {
			failsAsPatch(t, e, patchDecls+s)
			failsAsPatch(t, e, s+" "+patchDecls)
			failsAsPatch(t, e, patchDecls+"convert type X1() = C move W to 0 "+s+" drop X2 convert type X3(x: int) = nope drop X4 drop X4")
		}
	}
	for n := range api.MaxNodes {
		if p := patched(t, fmt.Sprint(patchDecls, "move Q to ", n)); printed(p.Moves) != fmt.Sprintf("[{Actor:Q Node:%d}]", n) {
			t.Error(p.Moves)
		}
	}
}

// P10.2: a second change of the same, which is an error after its own ones, and before those of the next change.
func TestRepeatedChanges(t *testing.T) {
	same := [][2]string{
		{"convert type P(x: int) = C", "convert type P() = A(#)"}, {"convert type P.Z(x: int) = C", "convert type P.Z() = A(#)"}, {"convert type P() = C", "convert type P.P() = A(#)"}, {"convert type P.P() = C", "convert type P() = A(#)"}, {"convert type Old() = C", "convert type Old() = A(#)"},
		{"convert actor Q() { x = 1, y = [], z = (fun(r: ref Q): ref Q = r)(q()) }", "convert actor Q(k: int) { x = #, y = [], z = q() }"}, {"convert actor Main() { }", "convert actor Main(k: int) { }"},
		{"convert message Q.Do() = None()", "convert message Q.Do(k: int) = Set(A(#))"}, {"convert message Q.init() = init(1, \"\")", "convert message Q.init(k: int) = Set(A(#))"}, {"convert message Q.None() = None()", "convert message Q.None() = init(#, \"\")"},
		{"move W to 1", "move W to 1"}, {"move W to 1", "move W to 2"}, {"move W to 1", "drop W"}, {"drop W", "move W to 1"}, {"drop W", "drop W"}, {"drop Old", "drop Old"},
	}
	const withQ = patchDecls + "fun q(): ref Q = q() "
	for _, x := range same {
		first, second := x[0], strings.Replace(x[1], "#", "1", 1)
		for _, between := range []string{" ", " drop Y convert type Y() = C move Main to 3 convert message Main.X() = Go(1) convert actor W() { } "} {
			for _, after := range []string{"", " drop Y drop Y", " convert type Y() = nope", " move Nope to 9", " convert message Q.Do(k: Nope) = None()"} {
				failsAsPatch(t, api.ErrTwice, withQ+first+strings.Replace(between, "convert actor W() { }", "", strings.Count(first, "actor"))+"^"+second+after)
			}
		}
		if strings.Contains(x[1], "#") {
			failsAsPatch(t, api.ErrName, withQ+first+" "+strings.Replace(x[1], "#", "^nope", 1))
			failsAsPatch(t, api.ErrType, withQ+first+" "+strings.Replace(x[1], "#", "^true", 1))
		}
	}
	failsAsPatch(t, api.ErrRange, withQ+"move W to 1 ^move W to 8")
	failsAsPatch(t, api.ErrName, withQ+"drop Old ^move Old to 1")
	// These differ in the Kind, the Name or the Sub.
	for _, s := range []string{
		"convert type P() = C convert type P.Z() = C convert type Z() = C convert type Z.P() = C convert actor Q() { x = 1, y = [], z = q() } convert type Q() = C convert type Q.Z() = C",
		"convert message Q.Do() = None() convert message Q.Du() = None() convert message Main.Do() = Go(1) convert message Q.init() = None() convert message Main.init() = init() convert actor Main() { } convert type Main() = C convert type Q.Do() = C",
		"move W to 1 drop Main move Q to 1 drop Old drop P", "drop A drop B drop C",
	} {
		patched(t, withQ+s)
	}
	failsAsPatch(t, api.ErrTwice, withQ+"convert type Q() = C convert actor Q() { x = 1, y = [], z = q() } ^convert type Q.Q() = C")
}

// P10.2: the errors of the declarations come before those of the changes, and of two changes those of the first one.
func TestOrderOfChanges(t *testing.T) {
	for _, s := range []string{
		"convert type X1() = A(f(nope)) move Nope to 8 fun t(): int = ^nope", "drop X drop X actor X3() { state s: int = ^nope }", "convert actor Nope() { } actor X3() { on M() { ^s = 1 } }", "convert type X(x: Nope) = nope fun t(): int = ^x fun t2(): int = 1",
	} {
		failsAsPatch(t, api.ErrName, patchDecls+s)
	}
	for _, s := range []string{
		"convert type X1(n: int) = A(#) convert type X2(n: int) = A(#) convert actor Q(r: ref Q) { x = #, y = [#, #], z = r } convert message W.Do() = Do(#, show(#)) convert message Q.init() = init(#, show(#))",
		"fun t(): int = # convert message W.Do() = Do(#, show(#)) convert type X1(n: int) = B(P { y = [#], x = # }, \"\") convert actor Q(r: ref Q) { x = #, y = [], z = (fun(n: int): ref Q = r)(#) }",
	} {
		ordered(t, failsAsPatch, patchDecls+s)
	}
}
