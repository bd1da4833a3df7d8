package types_test

import (
	"strings"
	"testing"

	"retroact/api"
	"retroact/syntax"
	"retroact/types"
)

const mainActor = " actor Main() { }"

// marked takes the mark ^ out of a source, and returns its offset.
func marked(t *testing.T, s string) (string, int) {
	t.Helper()
	before, after, found := strings.Cut(s, "^")
	if !found || strings.Contains(after, "^") {
		t.Fatal("not one mark in", s)
	}
	return before + after, len(before)
}

// fails checks that a source has an error at the mark ^, and no program.
func fails(t *testing.T, want api.Errno, s string) {
	t.Helper()
	s, offset := marked(t, s)
	p, e, at := types.Decls(parsed(t, s))
	if e != want || at != offset || printed(p) != printed(api.Prog{}) {
		t.Errorf("%s: error %d at %d, %+v; want %d at %d", s, e, at, p, want, offset)
	}
}

// failsAround checks the error with the root behind and before the source.
func failsAround(t *testing.T, want api.Errno, l ...string) {
	t.Helper()
	for _, s := range l {
		fails(t, want, s+mainActor)
		fails(t, want, mainActor+" "+s)
	}
}

func passes(t *testing.T, l ...string) {
	t.Helper()
	for _, s := range l {
		declared(t, s+mainActor)
		declared(t, mainActor+" "+s)
	}
}

// P9.5, 1: trees that are not valid, and such that are of another kind.
func TestErrArg(t *testing.T) {
	good := func() api.Node { return parsed(t, everything) }
	with := func(change func(n *api.Node)) api.Node {
		n := good()
		change(&n)
		return n
	}
	deep := tree(syntax.KTypeName, "int")
	for range 37 {
		deep = tree(syntax.KTypeList, "", deep)
	}
	record := func(x api.Node) api.Node {
		return tree(syntax.KProgram, "", tree(syntax.KRecord, "P", tree(syntax.KField, "x", x)), tree(syntax.KActor, "Main"))
	}
	if _, e, at := types.Decls(record(deep)); e != api.OK || at != 0 {
		t.Error("a type at the greatest depth:", e, at)
	}
	l := []api.Node{
		{}, {Kind: -1}, {Kind: syntax.KProgram, Text: "x"}, {Kind: syntax.KProgram, N: 1}, {Kind: syntax.KProgram, N: -1}, {Kind: syntax.KProgram, Kids: []api.Node{{}}},
		tree(syntax.KActor, "Main"), tree(syntax.KProgram, "", tree(syntax.KProgram, "")), tree(syntax.KProgram, "", tree(syntax.KField, "x", tree(syntax.KTypeName, "int"))),
		good().Kids[0], good().Kids[2].Kids[0], good().Kids[2].Kids[0].Kids[0], parsed(t, "drop Main").Kids[0],
		record(tree(syntax.KTypeList, "", deep)), record(api.Node{}), record(tree(syntax.KTypeName, "x")), record(tree(syntax.KTypeList, "")), record(tree(syntax.KTypeFun, "")),
		tree(syntax.KProgram, "", tree(syntax.KVariant, "V"), tree(syntax.KActor, "Main")),
		tree(syntax.KProgram, "", tree(syntax.KFun, "f", tree(syntax.KTypeName, "int")), tree(syntax.KActor, "Main")),
		tree(syntax.KProgram, "", tree(syntax.KEffect, "e"), tree(syntax.KActor, "Main")),
		tree(syntax.KProgram, "", api.Node{Kind: syntax.KActor, Text: "Main", N: -2}),
		tree(syntax.KProgram, "", api.Node{Kind: syntax.KActor, Text: "Main", N: api.MaxNum + 2}),
		with(func(n *api.Node) { n.Kind = syntax.KBlock }), with(func(n *api.Node) { n.Kids[0].Text = "empty" }), with(func(n *api.Node) { n.Kids[0].N = 1 }),
		with(func(n *api.Node) { n.Kids[2].Kids[0].Text = "X" }), with(func(n *api.Node) { n.Kids[2].Kids[0].Kids = nil }), with(func(n *api.Node) { n.Kids[3].N = -2 }),
		with(func(n *api.Node) { n.Kids[5].Kids[3].Kids = nil }), with(func(n *api.Node) { n.Kids[6].Kids[3].Kids[2].Kids[0].Text = "" }),
		with(func(n *api.Node) { n.Kids = append(n.Kids, api.Node{Kind: syntax.KMove, Text: "main"}) }),
		// Other errors are there too.
		with(func(n *api.Node) { n.Kids = append(n.Kids, n.Kids[0], api.Node{}) }), {Kind: syntax.KProgram, Text: "x", At: 5, Kids: []api.Node{tree(syntax.KRecord, "P"), tree(syntax.KRecord, "P")}},
	}
	for k, n := range l {
		n.At = 3
		if p, e, at := types.Decls(n); e != api.ErrArg || at != 0 || printed(p) != printed(api.Prog{}) {
			t.Errorf("%d: error %d at %d", k, e, at)
		}
	}
}

// P9.5, 2: names of types and actors, and constructors.
func TestRepeatedTypes(t *testing.T) {
	failsAround(t, api.ErrTwice,
		"record A { } ^record A { }", "record A { } ^variant A { B }", "record A { } ^actor A() { }",
		"variant A { B } ^record A { }", "variant A { B } ^variant A { C }", "variant A { B } ^actor A() { }",
		"actor A() { } ^record A { }", "actor A() { } ^variant A { B }", "actor A() { } ^actor A() { }",
		"record A { } record B { } fun f(): int = 1 ^record A { }", "variant A { A } ^actor A() { }", "variant A { B, C } variant D { E } ^variant A { F }",
		"record A { } variant V { ^A }", "record A { } variant V { B, ^A(int) }", "variant V { A } ^record A { }", "variant V { B(int), A(int) } ^record A { x: int }",
		"variant V { A, ^A }", "variant V { A(int), B, ^A }", "variant V { A, B } variant W { C, ^B }", "variant V { A } variant W { ^A(int) }",
		"variant A { A } variant B { ^A }", "variant A { A } variant B { B, ^A }", "variant A { A } ^record A { }", "record A { } ^variant A { A }",
		"variant V { V, ^V }", "actor A() { } variant V { A } ^record A { }",
	)
	passes(t,
		"variant A { A }", "variant A { B, A } record C { }", "variant A { B } variant B { A }", "actor A() { } variant V { A }", "variant V { A } actor A() { }",
		"variant V { Main }", "record A { a: int } fun a(): int = 1 effect a(): int actor W() { on A() { } }", "record A { } record AA { } record B { }",
	)
	for _, s := range []string{"^record Main { }", "^variant Main { A }", "^actor Main() { }", "^actor Main(x: int) { }"} {
		fails(t, api.ErrTwice, mainActor+" "+s)
		fails(t, api.ErrTwice, strings.Replace(s, "^", "", 1)+" ^actor Main() { }")
	}
}

// P9.5, 2: names of functions, primitive ones included, and effects.
func TestRepeatedFunctions(t *testing.T) {
	failsAround(t, api.ErrTwice,
		"fun f(): int = 1 ^fun f(): int = 1", "fun f(): int = 1 fun g(): int = 1 ^fun f(x: int): bool = true",
		"effect e(): int ^effect e(): int", "effect e(): int effect f(): int ^effect e(x: int): text",
	)
	for _, name := range []string{"len", "at", "put", "slice", "size", "sub", "show"} {
		failsAround(t, api.ErrTwice, "^fun "+name+"(): int = 1", "fun f(): int = 1 ^fun "+name+"(x: [int]): int = 1")
		passes(t, "effect "+name+"("+name+": int): int record R { "+name+": int } fun f("+name+": int): int = 1 actor A("+name+": int) { state "+name+": int = 1 on M("+name+": int) { } }")
	}
	passes(t, "effect f(): int fun f(): int = 1", "fun f(): int = 1 effect f(): int", "fun f(f: int): int = f", "fun length(): int = 1 fun convert(): int = 1 fun type(): int = 1 fun siz(): int = 1")
}

// P9.5, 2: names of fields, parameters, state members and handlers.
func TestRepeatedMembers(t *testing.T) {
	failsAround(t, api.ErrTwice,
		"record P { x: int, ^x: int }", "record P { x: int, y: int, ^x: text }", "record P { x: int, y: int, ^y: int }",
		"effect e(x: int, ^x: int): int", "effect e(x: int, y: int, ^x: text): int",
		"fun f(x: int, ^x: int): int = 1", "fun f(x: int, y: int, z: int, ^x: fun(): int): int = 1",
		"actor A(x: int, ^x: int) { }", "actor A(x: int, y: int, ^y: int) { state x: int = 1 }",
		"actor A() { on M(x: int, ^x: int) { } }", "actor A() { on L(x: int) { } on M(x: int, y: int, ^x: int) { } }",
		"actor A() { state s: int = 1 ^state s: int = 1 }", "actor A() { state s: int = 1 on M() { } state r: int = 1 ^state s: text = 1 }",
		"actor A() { on M() { } ^on M() { } }", "actor A() { on M() { } state s: int = 1 on N() { } ^on M(x: int) { } }",
	)
	passes(t,
		"record P { x: int } record Q { x: int }", "effect e(x: int): int effect f(x: int): int", "fun f(x: int): int = 1 fun g(x: int): int = 1",
		"actor A(x: int) { state x: int = 1 on M(x: int) { } on N(x: int) { } } actor B(x: int) { state x: int = 1 on M(x: int) { } on A() { } on Main() { } }",
		"record P { x: int } effect x(x: int): int fun x(x: int): int = x", "actor A() { on A() { } on P() { } } record P { }",
		"fun f(x: int): int = fun(x: int, x: int): int = x", "actor A() { state s: int = fun(x: int, x: int): int = x on M() { let y = 1 let y = fun(x: int, x: int): int = x } }",
		"fun f(): int = let f = 1 in let f = 2 in f", "variant V { A(int, int) }",
	)
}

// typePlaces are the places of types in a program, in which # stands for a type. The last two are in functions.
func typePlaces() []string {
	return []string{
		"record P { x: # }", "record P { x: int, y: # }", "record P { x: #, y: int }", "variant V { A(#) }", "variant V { B, A(int, #, text) }", "variant V { A, B(#) }",
		"effect e(x: #): int", "effect e(x: int, y: #): int", "effect e(): #", "effect e(x: int): #",
		"actor A(x: #) { }", "actor A(x: int, y: #) { state s: int = 1 }", "actor A() { state s: # = 1 }", "actor A() { on M() { } state s: # = 1 }",
		"actor A() { on M(x: #) { } }", "actor A() { state s: int = 1 on L() { } on M(x: int, y: #) { stop } }",
		"fun f(x: int, y: #): int = 1", "fun f(x: int): # = 1",
	}
}

// P9.5, 3: names of types and actors that are not declared, in each place and at each depth.
func TestUndeclaredNames(t *testing.T) {
	for _, place := range typePlaces() {
		for _, x := range []string{"^X", "^ref X", "[^X]", "[[^ref X]]", "^Main", "^ref R", "^ref C", "^C", "^ref Int", "^Len", "[^Msg]", "^ref Msg"} {
			s := strings.Replace(place, "#", x, 1)
			others := "record R { msg: int } variant T { C } actor Z() { on Msg() { } }"
			failsAround(t, api.ErrName, others+" "+s, s+" "+others)
		}
		for _, x := range []string{"fun(): ^X", "fun(^X): int", "fun(int, ^ref X, Y): int", "[fun(int, [^X]): int]", "fun(fun(^ref X): Y): Z", "fun(int): fun(int): ^X"} {
			failsAround(t, api.ErrName, strings.Replace(place, "#", x, 1))
		}
		passes(t, "record R { } variant T { C } actor W() { } "+strings.Replace(place, "#", "R", 1), strings.Replace(place, "#", "[T]", 1)+" record R { } variant T { C } actor W() { }",
			strings.Replace(place, "#", "ref W", 1)+" actor W() { }", strings.Replace(place, "#", "[[ref Main]]", 1))
	}
	passes(t, "variant L { N, C(L) }", "record P { x: [P] }", "actor A(x: ref A) { }", "fun f(x: fun(R, ref Main): [R]): R = x record R { }")
}

// P9.5, 3: types of lambdas are not checked, wherever these stand.
func TestTypesOfLambdas(t *testing.T) {
	for _, x := range []string{
		"fun(x: Nowhere): int = x", "fun(): ref Nobody = 1", "fun(x: [Main]): fun(ref P): X = fun(y: Nowhere): Nowhere = y", "let x = fun(y: X): Y = y in x", "f(1, [fun(): X = 1])",
		"match fun(): X = 1 { A(x) => fun(y: X): Y = x, _ => 1 }", "if true then fun(): X = 1 else P { x = fun(y: ref X): X = y }",
	} {
		passes(t,
			"fun f(): int = "+x, "actor A() { state s: int = "+x+" }",
			"actor A() { on M() { let y = "+x+" s = "+x+" send self M("+x+") if ("+x+") { fail "+x+" } else { after 1 send self M("+x+") } for z in ("+x+") { do e("+x+") then M } } }")
		fails(t, api.ErrName, "fun f(): int = "+x+" fun g(): ^X = 1"+mainActor)
	}
}

// P9.5, 4: types that are not storable, in each place and at each depth, and the places in which they may be.
func TestUnstorableTypes(t *testing.T) {
	for _, place := range typePlaces() {
		for _, x := range []string{"fun(): int", "fun(int, text): bool", "[fun(): int]", "[[fun(Main2): ref Main]]", "fun(): fun(): int", "fun([int]): [fun(): int]"} {
			if strings.HasPrefix(place, "fun") {
				passes(t, strings.Replace(place, "#", x, 1)+" record Main2 { }")
			} else {
				failsAround(t, api.ErrType, strings.Replace(place, "#", "^"+x, 1)+" record Main2 { }", "record Main2 { } "+strings.Replace(place, "#", "^"+x, 1))
			}
		}
	}
}

// P9.5, 5: numbers of restarts.
func TestRestarts(t *testing.T) {
	failsAround(t, api.ErrRange, "^actor A() restart 0 { }", "^actor A() restart 101 { }", "^actor A() restart 102 { }", "^actor A(x: int) restart 9007199254740992 { state s: int = 1 }",
		"actor A() restart 1 { } ^actor B() restart 0 { } actor C() restart 101 { }", "actor A() restart 100 { } ^actor B() restart 101 { } actor C() restart 0 { }")
	fails(t, api.ErrRange, "^actor Main() restart 0 { }")
	fails(t, api.ErrRange, "actor A() escalate { } ^actor Main() restart 101 { }")
	passes(t, "actor A() restart 1 { }", "actor A() restart 100 { } actor B() restart 50 { }", "actor A() escalate { }")
}

// P9.5, 6: types that have no values, and such that have some.
func TestEndlessTypes(t *testing.T) {
	failsAround(t, api.ErrLoop,
		"^record P { p: P }", "^record P { x: int, p: P }", "^record P { p: P, x: [P] }", "^variant V { A(V) }", "^variant V { A(V), B(V) }", "^variant V { A(int, V), B(V, int) }",
		"^record P { q: Q } record Q { p: P }", "^record P { q: Q } record Q { r: R } record R { p: P }", "^record P { v: V } variant V { A(P), B(V) }", "^variant V { A(P) } record P { v: V }",
		// Types that are not finite through others, which they are not part of.
		"^record P { q: Q } record Q { q: Q }", "^variant V { A(Q) } record Q { q: Q }", "^record Q { q: Q } record P { q: Q }", "record O { } ^record P { o: O, q: Q } record Q { q: Q }",
		"variant L { C(int, L), N } ^record A { b: B } record B { a: A }", "^record P { l: L, p: P } variant L { C(L), N }", "record O { } ^record P { o: O, q: P }",
		"variant V { A(W), B } ^variant W { C(V, W) }", "variant V { A, B(W) } variant X { D(W), E } ^variant W { C(W) }",
		"^record P { v: V } variant V { A(P, O), B(O, P) } record O { }", "record A { b: B } record B { c: C } variant C { D, E(F) } ^record F { a: A, f: F }",
		"record A { } ^record P { a: A, b: A, p: P, c: A }", "^record P { p: P, q: P }", "^variant V { A(O, O, V) } record O { }",
	)
	passes(t,
		"record P { }", "record P { x: int, b: bool, t: text, u: unit }", "variant V { A }", "variant V { A(V), B }", "variant V { B, A(V) }", "variant V { A(V), B(int) }", "variant V { A(V, V), B(V), C(O) } record O { }",
		"record P { p: [P] }", "variant V { A([V]) }", "variant V { A([[V]], [V]) }", "record P { m: ref Main, p: [P] }", "actor A(p: P) { } record P { a: ref A }", "variant V { A(ref Main), B(V) }",
		"record P { q: Q } record Q { p: [P] }", "record P { q: Q } variant Q { A(P), B }", "record P { q: Q } variant Q { B, A(P) }", "variant Q { A(P), B } record P { q: Q }", "record P { a: Q, b: Q, c: Q } record Q { }",
		"record A { b: B } record B { c: C } record C { d: D } record D { }", "record D { } record C { d: D } record B { c: C } record A { b: B }", "variant A { B(C) } variant C { D(E), F(A) } variant E { G(A), H }",
	)
	// A function type is finite, but it is not storable.
	failsAround(t, api.ErrType, "record P { f: ^fun(): P }", "variant V { A(^fun(V): V), B(V) }")
	// Types within function types are not arguments of constructors.
	passes(t, "fun f(p: P): fun(P): P = p record P { p: [P] }")
}

// P9.5, 7: the actor type Main.
func TestRoot(t *testing.T) {
	for _, s := range []string{"^", "^record P { }", "^variant V { Main }", "^actor A() { on Main() { } }", "^record Main { }", "^variant Main { A }", "^fun main(): int = 1", "^actor MainA() { }", "^actor Mai() { } actor M() { }", "^drop Main"} {
		fails(t, api.ErrNone, s)
		// The offset is 0 wherever the tree begins.
		n := parsed(t, " // \n "+strings.Replace(s, "^", "", 1))
		n.At = 4
		if _, e, at := types.Decls(n); e != api.ErrNone || at != 0 {
			t.Errorf("%s: error %d at %d", s, e, at)
		}
	}
	for _, s := range []string{"^actor Main(x: int) { }", "record P { } ^actor Main(x: P, y: int) escalate { }", "actor A(x: int) { } ^actor Main(x: int) { state s: int = 1 on M() { } } actor B() { }"} {
		fails(t, api.ErrType, s)
	}
	for _, s := range []string{"actor Main() { }", "record P { } actor Main() restart 3 { }", "actor A(x: int) { } actor Main() { state s: int = 1 on M(x: int) { } } actor B(y: int) { }"} {
		declared(t, s)
	}
}

// faults are, for each error of the list but the first and those of Main, declarations with that error alone.
func faults() []struct {
	e     api.Errno
	wrong []string
} {
	return []struct {
		e     api.Errno
		wrong []string
	}{
		{api.ErrTwice, []string{"record TA { a: int, ^a: int }", "^fun len(): int = 1", "actor TB() { on M() { } on N(a: int, ^a: int) { } }", "variant TC { TD, ^TD }", "effect te(a: int, ^a: int): int"}},
		{api.ErrName, []string{"record NA { a: ^Nowhere }", "fun nf(): [^ref Nobody] = 1", "actor NB() { on M(a: fun(): ^Nowhere) { } }", "variant NC { ND(int, ^Nowhere) }", "effect ne(): ^Main"}},
		{api.ErrType, []string{"record SA { a: ^fun(): int }", "effect se(): ^[fun(): int]", "actor SB() { state s: ^fun(int): int = 1 }", "variant SC { SD(^[[fun(): int]]) }", "actor SE(a: ^fun(): SA2) { } record SA2 { }"}},
		{api.ErrRange, []string{"^actor RA() restart 0 { }", "^actor RB() restart 101 { on M() { } }", "^actor RC() restart 9007199254740992 { }"}},
		{api.ErrLoop, []string{"^record LA { a: LA }", "^variant LB { LC(LB, int) }", "^record LD { a: LE } record LE { a: LD }"}},
	}
}

// unmarked takes the mark away.
func unmarked(s string) string { return strings.Replace(s, "^", "", 1) }

// P9.5, P2: of two errors of different rows, the one that the list names first counts, in each order in the source.
func TestOrderOfRows(t *testing.T) {
	rows := faults()
	for j, first := range rows {
		for _, a := range first.wrong {
			for _, second := range rows[j+1:] {
				for _, b := range second.wrong {
					failsAround(t, first.e, a+" "+unmarked(b), unmarked(b)+" "+a)
				}
			}
			// No actor Main, or one with parameters.
			fails(t, first.e, a)
			fails(t, first.e, a+" actor Main(x: int) { }")
			fails(t, first.e, "actor Main(x: int) { } "+a)
		}
	}
	// Both in one declaration.
	fails(t, api.ErrTwice, "record P { a: Nowhere, ^a: P }")
	fails(t, api.ErrName, "record P { a: fun(): int, b: fun(P): ^Nowhere }")
	fails(t, api.ErrType, "record P { p: P, b: ^fun(P): int }")
	fails(t, api.ErrRange, "record P { p: P } ^actor Main(x: int) restart 0 { }")
	fails(t, api.ErrType, "actor Main(x: ^fun(): int) restart 0 { }")
}

// P9.5: of two errors of one row, the first one in pre-order counts.
func TestOrderInRow(t *testing.T) {
	for _, row := range faults() {
		for j, a := range row.wrong {
			for k, b := range row.wrong {
				if j != k {
					failsAround(t, row.e, a+" "+unmarked(b))
				}
			}
		}
	}
	failsAround(t, api.ErrTwice,
		// A node comes before its kids, and these come before its brothers.
		"variant V { A } ^variant V { A, A }", "record P { } ^record P { x: int, x: int }", "fun f(): int = 1 ^fun f(x: int, x: int): int = 1", "effect e(): int ^effect e(x: int, x: int): int",
		"actor A() { } ^actor A(x: int, x: int) { }", "actor A(x: int, ^x: int) { on M() { } on M() { } }", "actor A() { on M() { } ^on M(x: int, x: int) { } }",
		"actor A() { on M(x: int, ^x: int) { } on M() { } }", "actor A() { state s: int = 1 on M() { } ^state s: int = 1 on M() { } }", "actor A() { state s: int = 1 on M() { } ^on M() { } state s: int = 1 }",
		"record P { x: int, ^x: int } record P { }", "variant V { A, ^A } actor V() { }", "variant V { A, ^A, A }", "record P { x: int, ^x: int, x: int }", "record P { } ^record P { } record P { }",
		"record P { } ^actor P() { } variant V { P }", "record P { } variant V { ^P } actor P() { }", "variant V { P } ^record P { } record P { }",
	)
	failsAround(t, api.ErrName,
		"record P { x: ^X, y: Y }", "record P { x: [int], y: ^ref Y, z: X }", "fun f(x: fun(^X, Y): Z, y: W): V = 1", "fun f(x: int): ^X = 1 record P { x: Y }", "effect e(x: ^X): Y",
		"actor A(x: ^X) { state s: Y = 1 }", "actor A() { on M(x: ^X) { } state s: Y = 1 }", "actor A() { state s: ^Y = 1 on M(x: X) { } }", "variant V { A(^X), B(Y, Z) }", "fun f(x: fun(int): fun(^X): Y): Z = 1",
	)
	failsAround(t, api.ErrType,
		"record P { x: ^fun(): int, y: fun(): int }", "effect e(x: ^[fun(): int]): fun(): int", "actor A(x: ^fun(): int) { state s: fun(): int = 1 on M(x: fun(): int) { } }",
		"actor A() { on M(x: int, y: ^fun(fun(): int): int) { } state s: fun(): int = 1 }", "variant V { A(int), B(^fun(): int, fun(): int) }",
	)
	failsAround(t, api.ErrLoop, "variant V { A } ^record P { q: Q } record Q { p: P }", "^variant V { A(V) } record P { v: V }", "record R { } ^record Q { p: P } record P { p: P }")
}

// P9.5: the offset is the At of the node, whatever number that is.
func TestOffsetsOfErrors(t *testing.T) {
	for _, at := range []int{-1, 0, 77, 1 << 62, -1 << 63} {
		for _, c := range []struct {
			e    api.Errno
			s    string
			node func(n api.Node) *api.Node
		}{
			{api.ErrTwice, "record P { } record P { }", func(n api.Node) *api.Node { return &n.Kids[1] }},
			{api.ErrTwice, "fun f(x: int, x: int): int = 1", func(n api.Node) *api.Node { return &n.Kids[0].Kids[1] }},
			{api.ErrName, "record P { x: [X] }", func(n api.Node) *api.Node { return &n.Kids[0].Kids[0].Kids[0].Kids[0] }},
			{api.ErrType, "record P { x: [fun(): int] }", func(n api.Node) *api.Node { return &n.Kids[0].Kids[0].Kids[0] }},
			{api.ErrRange, "record P { } actor A() restart 0 { }", func(n api.Node) *api.Node { return &n.Kids[1] }},
			{api.ErrLoop, "variant V { A } record P { p: P }", func(n api.Node) *api.Node { return &n.Kids[1] }},
			{api.ErrType, "variant V { A } actor Main(x: int) { }", func(n api.Node) *api.Node { return &n.Kids[1] }},
		} {
			n := parsed(t, c.s)
			c.node(n).At = at
			if _, e, got := types.Decls(n); e != c.e || got != at {
				t.Errorf("%s: error %d at %d; want %d at %d", c.s, e, got, c.e, at)
			}
		}
	}
}
