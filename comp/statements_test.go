package comp_test

import (
	"testing"

	"retroact/api"
	"retroact/comp"
)

// withBody returns the program base, without functions, with another first handler, whose parameters have the slots 0 to 4.
func withBody(body string) api.Prog {
	p := base()
	p.Funs = nil
	p.Actors[0].Vars = []api.Var{{Name: "n", Type: typ("int"), Init: expr("int7")}, {Name: "l", Type: typ("[int]"), Init: expr("list")}}
	p.Actors[0].On[0] = api.Handler{Msg: "Go", Params: fields("n", "int", "l", "[int]", "v", "V", "w", "ref W", "b", "bool"), Slots: 20, Body: block(body)}
	return p
}

// runs checks the code of the statements of a handler.
func runs(t *testing.T, body, want string) {
	t.Helper()
	c := comp.Compile(valid(t, withBody(body)))
	a := new(assembler).on("Main", "", 0, 0, "const(int7) make(list) init2").on("Main", "Go", 5, 20, want+" end")
	begins(t, c, a.Code, body)
	if !comp.Right(c) {
		t.Errorf("%s: the code is not valid", body)
	}
}

// P14.1: statements without others in them.
func TestStatements(t *testing.T) {
	for _, row := range [][2]string{
		{"", ""}, {"let5(int1)", "const(int1) store5"}, {"let19(list(int1)) let5(local19)", "const(int1) make/1(list) store19 local19 store5"}, {"set0(int1)", "const(int1) set0"}, {"set1(local1)", "local1 set1"}, {"set0(state0)", "state0 set0"}, {"set1(cat(state1 list(int7)))", "state1 const(int7) make/1(list) binary25 set1"},
		{"send'End'(local3)", "local3 send'End'"}, {"send'Do'(local3 local0 text'a')", "local3 local0 const(text'a') send/2'Do'"}, {"send'Ok'(self bool1)", "self const(bool1) send/1'Ok'"},
		{"after'End'(int5 local3)", "const(int5) local3 after'End'"}, {"after'Do'(local0 local3 int1 text)", "local0 local3 const(int1) const(text) after/2'Do'"}, {"after'Add'(int0 self state0)", "const(int0) self state0 after/1'Add'"},
		{"spawn-1'Main'", "spawn'Main' pop"}, {"spawn-1/1'Main'(int2)", "const(int2) spawn/1'Main' pop"}, {"spawn5'Main'", "spawn'Main' store5"}, {"spawn19/1'Main'(local0)", "local0 spawn/1'Main' store19"},
		{"spawn-1'W'(int1 text'a')", "const(int1) const(text'a') spawn/4'W' pop"}, {"spawn-1/1'W'(int2 int1 text'a')", "const(int2) const(int1) const(text'a') spawn/5'W' pop"}, {"spawn5'W'(int1 text'a') send'End'(local5)", "const(int1) const(text'a') spawn/4'W' store5 local5 send'End'"}, {"spawn6/1'W'(local0 local0 text'a')", "local0 local0 const(text'a') spawn/5'W' store6"},
		{"do'ask''Ok'", "const(text'Ok') ask'ask'"}, {"do'pay''Ok'(int1 text'a')", "const(int1) const(text'a') const(text'Ok') ask/2'pay'"}, {"do'pay''Ok'(int1 text'Ok')", "const(int1) const(text'Ok') const(text'Ok') ask/2'pay'"},
		{"stop", "stop"}, {"fail(text'no')", "const(text'no') fail"}, {"fail(cat(text'n' prim7(local0)))", "const(text'n') local0 prim7 binary25 fail"}, {"stop stop set0(int1)", "stop stop const(int1) set0"}, {"fail(text) send'End'(local3)", "const(text) fail local3 send'End'"},
		{"let5(if(local4 int1 int2)) set0(local5)", "local4 false4 const(int1) jump5 const(int2) store5 local5 set0"}, {"set0(match(local2 arm0/5(local5) arm-1(int1)))", "local2 case0/5 bind5 local5 jump7 pop const(int1) set0"}, {"let5(and(local4 local4))", "local4 false4 local4 jump5 const(bool0) store5"},
		{"set0(let5(int1 local5)) let5(int2)", "const(int1) store5 local5 set0 const(int2) store5"},
	} {
		runs(t, row[0], row[1])
	}
}

// P14.1: statements that contain others.
func TestNested(t *testing.T) {
	for _, row := range [][2]string{
		{"if(local4)", "local4 false2"}, {"if(local4)then{set0(int1)}", "local4 false4 const(int1) set0"}, {"if(local4)else{set0(int1)}", "local4 false3 jump5 const(int1) set0"}, {"if(local4)then{set0(int1)}else{set0(int2)}", "local4 false5 const(int1) set0 jump7 const(int2) set0"},
		{"if(local4)then{stop}else{stop}", "local4 false4 stop jump5 stop"}, {"if(local4)then{fail(text)} set0(int1)", "local4 false4 const(text) fail const(int1) set0"}, {"if(local4)then{if(local4)then{stop}}", "local4 false5 local4 false5 stop"},
		{"if(local4)then{if(local4)then{stop}else{set0(int1)}}else{if(local4)else{stop}}", "local4 false9 local4 false6 stop jump8 const(int1) set0 jump13 local4 false12 jump13 stop"}, {"if(and(local4 bool1))then{stop}", "local4 false4 const(bool1) jump5 const(bool0) false7 stop"},
		{"match(local2)arms{arm-1then{}}", "local2 pop"}, {"match(local2)arms{arm-1/20then{stop set0(int1)}}", "local2 pop stop const(int1) set0"}, {"match(ctor0'O')arms{arm0/20}", "make(ctor0'O') bind20"}, {"match(ctor0'O')arms{arm0/5then{set0(int1)}}", "make(ctor0'O') bind5 const(int1) set0"},
		{"match(local2)arms{arm0/5then{set0(local5)} arm-1then{stop}}", "local2 case0/6 bind5 local5 set0 jump8 pop stop"}, {"match(local2)arms{arm0/5 arm1/5 arm2/5}", "local2 case0/4 bind5 jump8 case1/7 bind5 jump8 bind5"},
		{"match(local2)arms{arm2/5 arm1/5then{let7(local6) let8(local7)} arm0/19then{set0(local19)}}", "local2 case2/4 bind5 jump14 case1/11 bind5 local6 store7 local7 store8 jump14 bind19 local19 set0"}, {"match(local2)arms{arm1/5then{stop} arm-1} set0(int1)", "local2 case1/5 bind5 stop jump6 pop const(int1) set0"},
		{"match(local2)arms{arm0/5then{match(local2)arms{arm0/6then{set0(local6)} arm-1then{set0(local5)}}} arm-1then{if(local4)then{stop}}}", "local2 case0/13 bind5 local2 case0/9 bind6 local6 set0 jump12 pop local5 set0 jump17 pop local4 false17 stop"},
		{"for5(local1)", "local1 const(int0) next4/5 jump2"}, {"for19(local1)then{set0(local19)}", "local1 const(int0) next6/19 local19 set0 jump2"}, {"for5(list(int1 int0))then{stop}", "const(int1) const(int0) make/2(list) const(int0) next7/5 stop jump4"},
		{"for5(local1)then{for6(list(local5))then{set0(add(local5 local6))}}", "local1 const(int0) next13/5 local5 make/1(list) const(int0) next12/6 local5 local6 binary20 set0 jump6 jump2"},
		{"for5(local1)then{for6(local1) for6(local1)then{let7(int1)}} set0(int2)", "local1 const(int0) next14/5 local1 const(int0) next7/6 jump5 local1 const(int0) next13/6 const(int1) store7 jump9 jump2 const(int2) set0"},
		{"match(local2)arms{arm0/5then{for6(local1)then{match(local2)arms{arm-1then{set0(local6)}}}} arm-1then{for5(local1)}}", "local2 case0/12 bind5 local1 const(int0) next11/6 local2 pop local6 set0 jump5 jump17 pop local1 const(int0) next17/5 jump15"},
		{"for5(local1)then{match(local2)arms{arm0/6then{set0(local6)} arm-1then{fail(text)}}}", "local1 const(int0) next13/5 local2 case0/9 bind6 local6 set0 jump12 pop const(text) fail jump2"}, {"for5(local1)then{if(local4)then{stop}else{set0(local5)}}", "local1 const(int0) next10/5 local4 false7 stop jump9 local5 set0 jump2"},
		{"for5(if(local4 local1 list))then{let6(local5)} let6(int1)", "local4 false4 local1 jump5 make(list) const(int0) next10/5 local5 store6 jump6 const(int1) store6"}, {"if(local4)then{for5(local1)then{spawn6'W'(local5 text) send'End'(local6)}}", "local4 false12 local1 const(int0) next12/5 local5 const(text) spawn/4'W' store6 local6 send'End' jump4"},
	} {
		runs(t, row[0], row[1])
	}
}

// several is a program with several declarations of each kind.
func several() api.Prog {
	p := base()
	p.Funs[1].Slots, p.Funs[2].Slots = 32768, 7
	p.Actors[0].Vars = []api.Var{{Name: "a", Type: typ("int"), Init: expr("int5")}}
	p.Actors[0].Slots = 3
	p.Actors[0].On[0].Slots, p.Actors[0].On[0].Body = 9, block("send'Add'(self state0) send'Go'(self)")
	p.Actors[0].On[2].Body = block("set0(call1(local0 text'5')) do'ask''Ok' spawn-1'W'(int5 text'W')")
	p.Actors[1].Vars = []api.Var{{Name: "a", Type: typ("text"), Init: expr("local1")}, {Name: "b", Type: typ("int"), Init: expr("let2(int4 local2)")}, {Name: "c", Type: typ("ref W"), Init: expr("self")}, {Name: "d", Type: typ("[int]"), Init: expr("list(int0 int5 int0)")}}
	p.Actors[1].Slots = 3
	p.Actors[1].On[0].Body = block("send'Do'(state2 local0 text'Ok')")
	p.Actors[1].On[1].Body = block("spawn0'Main' send'Add'(local0 int4) spawn-1'W'(int0 text'Do')")
	p.Actors[1].On[1].Slots = 1
	return p
}

// P14.1: the order of functions, initializers and handlers, what their entries are, and the order of the constants and names.
func TestEntries(t *testing.T) {
	want := new(assembler).fun(1, 1, "local0 return").fun(2, 32768, "local0 return").fun(3, 7, "local0 local2 binary21 return").fun(0, 0, "const(int0) return").
		on("Main", "", 0, 3, "const(int5) init1").on("Main", "Go", 0, 9, "self state0 send/1'Add' self send'Go' end").on("Main", "Ok", 1, 1, "end").on("Main", "Add", 1, 1, "local0 const(text'5') call1/2 set0 const(text'Ok') ask'ask' const(int5) const(text'W') spawn/4'W' pop end").
		on("W", "", 2, 3, "local1 const(int4) store2 local2 self const(int0) const(int5) const(int0) make/3(list) init4").on("W", "Do", 2, 2, "state2 local0 const(text'Ok') send/2'Do' end").on("W", "End", 0, 1, "spawn'Main' store0 local0 const(int4) send/1'Add' const(int0) const(text'Do') spawn/4'W' pop end").Code
	p := several()
	if c := comp.Compile(valid(t, p)); printed(c) != printed(want) || !comp.Right(c) {
		t.Errorf("%s; want %s", listing(c), listing(want))
	}
	for name, want := range map[string]api.Code{
		"actor Main() { }": new(assembler).on("Main", "", 0, 0, "init").Code,
		"actor A(a: int) { on X(a: int, b: int) { } } fun f(): int = 1 actor Main() { state a: int = 1 state b: int = 1 } fun g(): int = 2": new(assembler).fun(0, 0, "const(int1) return").fun(0, 0, "const(int2) return").on("A", "", 1, 1, "init").on("A", "X", 2, 2, "end").on("Main", "", 0, 0, "const(int1) const(int1) init2").Code,
		"fun f(k: int): fun(int): int = fun(x: int): int = x + k actor Main() { on Go() { } }":                                              new(assembler).fun(1, 1, "local0 make/1(fun1) return").fun(2, 2, "local1 local0 binary20 return").on("Main", "", 0, 0, "init").on("Main", "Go", 0, 0, "end").Code,
	} {
		if c := comp.Compile(compiled(t, name)); printed(c) != printed(want) || !comp.Right(c) {
			t.Errorf("%s: %s; want %s", name, listing(c), listing(want))
		}
	}
}
