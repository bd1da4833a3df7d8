package check_test

import (
	"testing"

	"retroact/api"
)

// around is an actor type, number 2, with the parameter a, two state variables, the first one of which has the first # as its Init, and a handler, number 0, with the second # as its statements.
const around = decls + `actor Q(a: int) restart 3 { state s: int = # state l: [text] = [] on Go(n: int, w: ref W) { #} on Yes(b: bool) { } on Txt(t: text) { } on Unit(u: unit) { } on Two(b: bool, c: bool) { } }`

// handled returns the handler with some statements, in a program without errors.
func handled(t *testing.T, stmts string) api.Handler {
	t.Helper()
	return checked(t, placed(around, "a", stmts)).Actors[2].On[0]
}

// row is a source with its translation, and the number of slots of the handler or function.
type row struct {
	source, want string
	slots        int
}

func handles(t *testing.T, rows []row) {
	t.Helper()
	for _, x := range rows {
		h := handled(t, x.source)
		if got := showBlock(h.Body); got != x.want || h.Slots != x.slots {
			t.Errorf("%s: %s with %d slots; want %s with %d", x.source, got, h.Slots, x.want, x.slots)
		}
	}
}

// P10.1: every row of the table of statements.
func TestStatements(t *testing.T) {
	handles(t, []row{
		{"", "", 2}, {"stop", "stop", 2}, {`fail "a"`, "fail(text'a')", 2}, {"fail show(n)", "fail(prim7(local0))", 2}, {"stop stop", "stop stop", 2},
		{"let x = 1", "let2(int1)", 3}, {"let x = f let y = x(n)", "let2(fun0) let3(apply(local2 local0))", 4},
		{"s = 1", "set0(int1)", 2}, {"l = []", "set1(list)", 2}, {"s = s + n", "set0(add(state0 local0))", 2}, {`l = put(l, s, "a")`, "set1(prim3(state1 state0 text'a'))", 2},
		{"if true { }", "if(bool1)", 2}, {"if true { stop }", "if(bool1)then{stop}", 2}, {"if s < n { stop } else { }", "if(lt(state0 local0))then{stop}", 2}, {"if false { } else { s = 1 s = 2 }", "if(bool0)else{set0(int1) set0(int2)}", 2},
		{"if true { s = 1 } else { s = 2 }", "if(bool1)then{set0(int1)}else{set0(int2)}", 2}, {"if true { s = 1 } else { if false { s = 2 } else { stop } }", "if(bool1)then{set0(int1)}else{if(bool0)then{set0(int2)}else{stop}}", 2},
		{"match v() { A(x) { s = x } B(q, t) { s = size(t) } C { } }", "match(call1)arms{arm0/2then{set0(local2)} arm1/2then{set0(prim5(local3))} arm2/2}", 4},
		{"match v() { C { stop } _ { s = n } }", "match(call1)arms{arm2/2then{stop} arm-1/2then{set0(local0)}}", 2}, {"match v() { _ { } }", "match(call1)arms{arm-1/2}", 2}, {"match v() { B(_, _) { } A(_) { } C { } }", "match(call1)arms{arm1/2 arm0/2 arm2/2}", 4},
		{"for i in [1, 2] { s = i }", "for2(list(int1 int2))then{set0(local2)}", 3}, {"for i in l { }", "for2(state1)", 3}, {"for g in [f] { s = g(1) }", "for2(list(fun0))then{set0(apply(local2 int1))}", 3},
		{"send w Stop()", "send'Stop'(local1)", 2}, {`send w Do(n, "a")`, "send'Do'(local1 local0 text'a')", 2}, {"send self Go(1, w)", "send'Go'(self int1 local1)", 2}, {"send self Unit(())", "send'Unit'(self unit)", 2},
		{"after 3 send w Stop()", "after'Stop'(int3 local1)", 2}, {`after n + 1 send w Do(s, "")`, "after'Do'(add(local0 int1) local1 state0 text'')", 2},
		{"spawn Q(1)", "spawn-1/0'Q'(int1)", 2}, {"spawn Main()", "spawn-1/0'Main'", 2}, {"spawn Main() on n", "spawn-1/1'Main'(local0)", 2}, {"spawn Q(1) on 2", "spawn-1/1'Q'(int2 int1)", 2},
		{"let m = spawn Main()", "spawn2/0'Main'", 3}, {"let q = spawn Q(s) send q Yes(true)", "spawn2/0'Q'(state0) send'Yes'(local2 bool1)", 3}, {"let m = spawn Main() let q = spawn W(1, m) on s + 1 send q Stop()", "spawn2/0'Main' spawn3/1'W'(add(state0 int1) int1 local2) send'Stop'(local3)", 4},
		{"do pay(8) then Yes", "do'pay''Yes'(int8)", 2}, {"do ask() then Txt", "do'ask''Txt'", 2}, {`do tell("a", [C]) then Unit`, "do'tell''Unit'(text'a' list(ctor2'V'))", 2},
	})
}

// P10.1: bindings of statements hold for those that follow in their block, and slots are used again behind it.
func TestStatementSlots(t *testing.T) {
	handles(t, []row{
		{"let x = 1 let x = x + 1 s = x", "let2(int1) let3(add(local2 int1)) set0(local3)", 4}, {"let n = n let n = n s = n", "let2(local0) let3(local2) set0(local3)", 4},
		{"if true { let x = 1 s = x } else { let y = 2 let z = 3 s = y } let u = 4 s = u", "if(bool1)then{let2(int1) set0(local2)}else{let2(int2) let3(int3) set0(local2)} let2(int4) set0(local2)", 4},
		{"let x = 1 if true { let x = 2 } s = x", "let2(int1) if(bool1)then{let3(int2)} set0(local2)", 4}, {"for n in [n] { let x = n for n in [x] { s = n } } s = n", "for2(list(local0))then{let3(local2) for4(list(local3))then{set0(local4)}} set0(local0)", 5},
		{"match A(n) { A(n) { let n = n s = n } _ { let k = n s = k } } s = n", "match(ctor0'V'(local0))arms{arm0/2then{let3(local2) set0(local3)} arm-1/2then{let2(local0) set0(local2)}} set0(local0)", 4},
		{"match T(1, 2, 3) { T(x, _, x) { s = x } }", "match(ctor0'T'(int1 int2 int3))arms{arm0/2then{set0(local4)}}", 5}, {"match T(1, 2, 3) { T(_, _, _) { } } let x = 1", "match(ctor0'T'(int1 int2 int3))arms{arm0/2} let2(int1)", 5},
		{"spawn Main() let x = 1", "spawn-1/0'Main' let2(int1)", 3}, {"let w = spawn Q(n) send w Yes(true)", "spawn2/0'Q'(local0) send'Yes'(local2 bool1)", 3},
		{"let x = let y = 1 in let z = 2 in z let k = x", "let2(let2(int1 let3(int2 local3))) let3(local2)", 4}, {"let x = n match A(x) { _ { let y = x } }", "let2(local0) match(ctor0'V'(local2))arms{arm-1/3then{let3(local2)}}", 4},
		{"s = (let x = 1 in x) + (match v() { B(_, t) => size(t), _ => let y = 1 in y })", "set0(add(let2(int1 local2) match(call1 arm1/2(prim5(local3)) arm-1/2(let2(int1 local2)))))", 4},
	})
}

// P10.1: state members and handlers in any order, the slots of all Inits of one actor together, and those of each handler.
func TestActors(t *testing.T) {
	for _, x := range []struct {
		source string
		inits  string
		slots  int
		bodies string
	}{
		{"actor X() { }", "", 0, ""}, {"actor X(a: int, b: int) { }", "", 2, ""}, {"actor X(a: int, b: int) { state c: int = a }", "local0 ", 2, ""}, {"actor X() { on M() { } }", "", 0, "0: | "},
		{"actor X(a: int, b: text) { state c: text = b state d: int = a + 1 state e: ref X = self }", "local1 add(local0 int1) self ", 2, ""},
		{"actor X(a: int) { state c: int = let x = 1 in x state d: int = let x = a in let y = 2 in x state e: int = let z = 1 in z }", "let1(int1 local1) let1(local0 let2(int2 local1)) let1(int1 local1) ", 3, ""},
		{"actor X() { state c: int = match v() { B(_, _) => 1, _ => 2 } state d: int = 3 }", "match(call1 arm1/0(int1) arm-1/0(int2)) int3 ", 2, ""},
		{"actor X(a: int) { on M(b: text, c: int) { s = c } state s: int = a on N() { let x = s } state u: int = let k = 1 in let l = 2 in 3 on K(z: int) { u = s } }", "local0 let1(int1 let2(int2 int3)) ", 3, "2: set0(local1)| 1: let0(state0)| 1: set1(state0)| "},
		{"actor X(a: int) { state a: int = a on M() { a = a } on N(a: int) { a = a } }", "local0 ", 1, "0: set0(state0)| 1: set0(local0)| "},
	} {
		p := checked(t, decls+x.source)
		a := p.Actors[2]
		inits, bodies := "", ""
		for _, v := range a.Vars {
			inits += show(v.Init) + " "
		}
		for _, h := range a.On {
			bodies += printed(h.Slots) + ": " + showBlock(h.Body) + "| "
		}
		if inits != x.inits || a.Slots != x.slots || bodies != x.bodies {
			t.Errorf("%s: %s, %d slots, %s", x.source, inits, a.Slots, bodies)
		}
	}
}

// P10.1: a name denotes the innermost local binding, the state variable, the function or the primitive function, in this order.
func TestDenotations(t *testing.T) {
	const both = decls + "fun x(k: int): int = k fun y(): int = 1 actor Q(y: int) { state x: int = # state len: int = 1 state f: text = \"\" on Go(n: int) { # } on Give(len: int, f: ref Q) { # } }"
	for _, row := range []struct{ init, first, second, want string }{
		// x is the function in the Inits and the state variable in the handlers; y is the parameter, and then the function.
		{"x(y)", "x = x", "x = x", "call4(local0); set0(state0); set0(state0)"}, {"y + f(y)", "x = y()", "x = y()", "add(local0 call0(local0)); set0(call5); set0(call5)"},
		// len and f are state variables in one handler, and local bindings in the other one, but an assignment is always to the state variable.
		{"len([y])", "x = len", "x = len", "prim1(list(local0)); set0(state1); set0(local0)"}, {"f(1)", "f = f len = len", "len = len f = show(len) send f Go(1)", "call0(int1); set2(state2) set1(state1); set1(local0) set2(prim7(local0)) send'Go'(local1 int1)"},
		{"1", "let len = f f = len let x = 1 x = x", "let len = size let f = 2 x = len + f", ""},
		{"1", "let size = n x = size let y = f f = y", "for x in [len] { x = x } match A(7) { A(len) { x = len } _ { x = len } }", "int1; let1(local0) set0(local1) let2(state2) set2(local2); for2(list(local0))then{set0(local2)} match(ctor0'V'(int7))arms{arm0/2then{set0(local2)} arm-1/2then{set0(local0)}}"},
	} {
		s := placed(both, row.init, row.first, row.second)
		if row.want == "" {
			// size is a primitive function, which is no value.
			failsAt(t, api.ErrType, s, "size let")
			continue
		}
		a := checked(t, s).Actors[2]
		if got := show(a.Vars[0].Init) + "; " + showBlock(a.On[0].Body) + "; " + showBlock(a.On[1].Body); got != row.want {
			t.Errorf("%s: %s", s, got)
		}
	}
	for _, name := range []string{"len", "at", "put", "slice", "size", "sub", "show"} {
		f := checked(t, decls+"fun t("+name+": int): int = "+name+" + (let "+name+" = 2 in "+name+")").Funs[4]
		if got := show(f.Body); got != "add(local0 let1(int2 local1))" {
			t.Error(name, got)
		}
		f = checked(t, decls+"fun t("+name+": fun(int): int): int = "+name+"(1)").Funs[4]
		if got := show(f.Body); got != "apply(local0 int1)" {
			t.Error(name, got)
		}
	}
}
