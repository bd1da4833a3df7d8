package mean_test

import (
	"testing"

	"retroact/api"
	"retroact/mean"
)

// office is a program with an actor type Main, the body of whose handler Go is to be added.
const office = `
record P { x: int, y: [int] } variant V { A(int), B(P, text), C }
effect pay(a: int, t: text): bool effect ask(): bool effect tell(v: [V], p: P): bool
fun f(n: int): int = if n <= 0 then 0 else n + f(n - 1)
actor W(k: int, m: ref Main) { state s: int = 10 / k state me: ref W = self state boss: ref Main = m on Do(n: int, t: text) { } on End() { } }
actor Idle() { }
actor Main() {
  state a: int = 1 state l: [int] = [3, 4] state v: V = C
  on Ok(b: bool) { } on No(b: bool) { } on Take(r: ref W) { }
  on Go(n: int, s: text) { `

// run runs the handler Go with a body. Its Args are 5 and "t".
func run(t *testing.T, body string) (api.Prog, api.Call) {
	t.Helper()
	p := compiled(t, office+body+" } }")
	return p, api.Call{Actor: "Main", Path: "0.4", Kids: 2, Vars: plains("1", "[3, 4]", "V#2()"), Msg: "Go", Args: plains("5", `"t"`)}
}

// P13.2: the state variables, Stop and Used behind a handler, and the faults of handlers.
func TestHandlers(t *testing.T) {
	for _, c := range []struct {
		body, vars string
		used       int
		stop       bool
	}{
		{"", "1 [3, 4] V#2()", 0, false}, {"a = n", "5 [3, 4] V#2()", 0, false}, {"a = n a = a + 1 a = a * 10", "60 [3, 4] V#2()", 0, false}, {"l = [a, n] a = 9 v = A(a)", "9 [1, 5] V#0(9)", 0, false}, {"a = size(s) v = B(P { x = a, y = l }, s)", `1 [3, 4] V#1(P{1, [3, 4]}, "t")`, 0, false},
		{"if n > 3 { a = 2 } else { a = 3 }", "2 [3, 4] V#2()", 0, false}, {"if n < 3 { a = 2 } else { a = 3 }", "3 [3, 4] V#2()", 0, false}, {"if n < 3 { a = 2 }", "1 [3, 4] V#2()", 0, false}, {"if n > 3 { if n > 4 { a = 7 } a = a + 1 } else { a = 0 } a = a * 2", "16 [3, 4] V#2()", 0, false},
		{"match v { A(x) { a = x } B(p, t) { a = p.x } C { a = 8 } }", "8 [3, 4] V#2()", 0, false}, {"match A(n) { A(x) { a = x + 1 } _ { a = 0 } }", "6 [3, 4] V#2()", 0, false}, {`match B(P { x = 6, y = [] }, "abc") { A(x) { a = x } B(p, t) { a = p.x * 10 + size(t) } C { } }`, "63 [3, 4] V#2()", 0, false}, {"match v { A(x) { a = x } _ { l = [] } } a = a + 1", "2 [] V#2()", 0, false}, {"match A(1) { A(x) { match A(x + 1) { A(y) { a = x * 10 + y } _ { } } } _ { } }", "12 [3, 4] V#2()", 0, false}, {"match v { A(x) { a = x } B(p, t) { } C { } } let z = 4 a = z", "4 [3, 4] V#2()", 0, false},
		{"let x = 2 let x = x + 1 a = x", "3 [3, 4] V#2()", 0, false}, {"if true { let x = 2 a = x } if true { let y = 3 a = a * 10 + y }", "23 [3, 4] V#2()", 0, false}, {"let a = 7 a = a + 1", "8 [3, 4] V#2()", 0, false},
		{"for x in l { a = a * 10 + x }", "134 [3, 4] V#2()", 2, false}, {"for x in l { l = l ++ [x * 2] a = a + len(l) }", "8 [3, 4, 6, 8] V#2()", 2, false}, {"for x in [1] ++ [] { a = x l = [] }", "1 [] V#2()", 1, false}, {"for x in l { let l = [x] for y in l { a = a + y } }", "8 [3, 4] V#2()", 4, false}, {"for x in l { for y in l { a = a * 10 + y } }", "13434 [3, 4] V#2()", 6, false}, {"for x in slice(l, 0, 0) { a = 0 }", "1 [3, 4] V#2()", 0, false}, {"for x in l { if x == 3 { let z = x * 2 a = a + z } else { let w = a a = w * x } }", "28 [3, 4] V#2()", 2, false}, {"for x in [A(1), C, A(3)] { match x { A(k) { a = a * 10 + k } _ { a = a + 1 } } }", "123 [3, 4] V#2()", 3, false},
		{"a = f(n)", "15 [3, 4] V#2()", 6, false}, {"let g = fun(k: int): int = k * a + n a = 100 a = g(2)", "7 [3, 4] V#2()", 1, false}, {"l = put(l, 1, n) a = at(l, 1)", "5 [3, 5] V#2()", 0, false},
		{"stop", "1 [3, 4] V#2()", 0, true}, {"a = 2 stop a = 3", "2 [3, 4] V#2()", 0, true}, {"a = 2 stop fail s", "2 [3, 4] V#2()", 0, true}, {"stop a = 1 / 0", "1 [3, 4] V#2()", 0, true}, {"for x in l { a = a + x stop a = 9 } a = 7", "4 [3, 4] V#2()", 1, true}, {"for x in l { if x == 4 { stop } a = a + x } a = 7", "4 [3, 4] V#2()", 2, true}, {"if n > 3 { for x in l { match A(x) { A(k) { a = k if k == 4 { stop } a = 100 } _ { } } a = 200 } a = 300 } a = 400", "4 [3, 4] V#2()", 2, true}, {"if n < 3 { stop } match v { A(x) { stop } _ { a = 6 } } for x in [1] { } ", "6 [3, 4] V#2()", 1, false}, {"match v { C { a = 2 stop } _ { } } a = 3", "2 [3, 4] V#2()", 0, true}, {"if n < 3 { } else { a = 4 stop } a = 5", "4 [3, 4] V#2()", 0, true}, {"for x in l { for y in [x] { stop } a = 9 } a = 8", "1 [3, 4] V#2()", 2, true},
	} {
		p, call := run(t, c.body)
		r := mean.Run(p, call)
		if shown(r.Vars) != c.vars {
			t.Errorf("%s: %s, fault %d; want %s", c.body, shown(r.Vars), r.Fault, c.vars)
		}
		gives(t, p, call, api.Result{Vars: r.Vars, Stop: c.stop, Used: c.used}, c.body)
		if want, _ := modelRun(p, call); printed(want) != printed(r) {
			t.Errorf("%s: the model gives %s", c.body, printed(want))
		}
	}
}

// P13.2: a fault takes everything with it but the fuel that has been used, and the reason of a fail statement.
func TestFaults(t *testing.T) {
	outputs := `a = 9 l = [] send self Ok(true) after 3 send self No(false) spawn W(1, self) do pay(1, s) then Ok `
	for _, c := range []struct {
		body, why   string
		fault, used int
	}{
		{"fail s", "t", api.FFail, 0}, {`fail ""`, "", api.FFail, 0}, {`fail "no" ++ show(n)`, "no5", api.FFail, 0}, {"fail sub(s, 2, 3)", "", api.FIndex, 0}, {`fail "call"`, "call", api.FFail, 0},
		{"a = 1 / 0", "", api.FZero, 0}, {"a = 9007199254740992 + 1", "", api.FOver, 0}, {"a = at(l, 7)", "", api.FIndex, 0}, {"let x = f(99)", "", api.FNone, 100}, {"let x = f(100)", "", api.FDepth, 101}, {`let x = f(2) fail "late"`, "late", api.FFail, 3}, {"let x = f(2) a = x / 0", "", api.FZero, 3},
		{`for x in [1, 2, 3] { if x == 2 { fail "at " ++ show(x) } }`, "at 2", api.FFail, 2}, {`if n > 3 { match A(7) { A(k) { for x in [k] { fail show(x + f(1)) } } _ { } } }`, "8", api.FFail, 3}, {`match v { A(x) { fail "A" } B(p, t) { fail "B" } C { fail "C" } }`, "C", api.FFail, 0}, {`if n < 3 { fail "no" } else { fail "yes" } fail "end"`, "yes", api.FFail, 0}, {`fail "first" fail "second"`, "first", api.FFail, 0}, {`fail "first" stop`, "first", api.FFail, 0},
		{"for x in [1, 0] { a = 1 / x }", "", api.FZero, 2}, {"for x in [1, 1 / 0] { }", "", api.FZero, 0}, {"if 1 / 0 == 1 { }", "", api.FZero, 0}, {"match A(1 / 0) { _ { } }", "", api.FZero, 0},
	} {
		for _, before := range []string{"", outputs} {
			p, call := run(t, before+c.body)
			if c.fault == api.FNone {
				if r := mean.Run(p, call); r.Fault != api.FNone || r.Used != c.used || len(r.Vars) != 3 || len(r.Sends) == 0 && before != "" {
					t.Errorf("%s: %s", c.body, printed(r))
				}
				continue
			}
			gives(t, p, call, api.Result{Fault: c.fault, Why: c.why, Used: c.used}, before, c.body)
		}
	}
}

// P13.2: all outputs of a handler, in their order.
func TestOutputs(t *testing.T) {
	p, call := run(t, `
		send self Ok(n == 5) after n send self No(false)
		let w = spawn W(n, self) send w Do(a, s ++ "1")
		spawn Idle() let x = spawn Idle()
		let y = spawn W(3, self) on a + 1 after 1048576 send y End()
		do pay(6, "x") then Ok do ask() then No do tell([v, A(a)], P { x = n, y = l }) then Ok
		send w End() after 1 send w Do(0, "") send self Take(y) spawn Idle() on 0 spawn Idle() on 7
		do pay(6, "x") then Ok a = 2 send self Ok(a == 2)`)
	gives(t, p, call, api.Result{
		Vars: plains("2", "[3, 4]", "V#2()"),
		Sends: []api.Send{
			{To: "0.4", Msg: "Ok", Args: plains("true")}, {To: "0.4.2", Msg: "Do", Args: plains("1", `"t1"`)}, {To: "0.4.2", Msg: "End"}, {To: "0.4", Msg: "Take", Args: plains("W@0.4.5")}, {To: "0.4", Msg: "Ok", Args: plains("true")},
		},
		Timers: []api.Delay{
			{Ticks: 5, To: "0.4", Msg: "No", Args: plains("false")}, {Ticks: 1 << 20, To: "0.4.5", Msg: "End"}, {Ticks: 1, To: "0.4.2", Msg: "Do", Args: plains("0", `""`)},
		},
		Spawns: []api.Spawn{
			{Actor: "W", Args: plains("5", "Main@0.4"), Node: -1}, {Actor: "Idle", Node: -1}, {Actor: "Idle", Node: -1}, {Actor: "W", Args: plains("3", "Main@0.4"), Node: 2}, {Actor: "Idle", Node: 0}, {Actor: "Idle", Node: 7},
		},
		Asks: []api.Ask{
			{Name: "pay", Args: plains("6", `"x"`), Reply: "Ok"}, {Name: "ask", Reply: "No"}, {Name: "tell", Args: plains("[V#2(), V#0(1)]", "P{5, [3, 4]}"), Reply: "Ok"}, {Name: "pay", Args: plains("6", `"x"`), Reply: "Ok"},
		},
	}, "all outputs")
	if want, _ := modelRun(p, call); printed(want) != printed(mean.Run(p, call)) {
		t.Error("the model gives", printed(want))
	}
	// Outputs before a stop count, and those behind it do not.
	p, call = run(t, "send self Ok(true) a = 3 stop send self No(true)")
	gives(t, p, call, api.Result{Vars: plains("3", "[3, 4]", "V#2()"), Sends: []api.Send{{To: "0.4", Msg: "Ok", Args: plains("true")}}, Stop: true}, "a stop")
	p, call = run(t, "for x in l { send self Ok(true) if x == 4 { do ask() then Ok stop } }")
	gives(t, p, call, api.Result{Vars: plains("1", "[3, 4]", "V#2()"), Sends: []api.Send{{To: "0.4", Msg: "Ok", Args: plains("true")}, {To: "0.4", Msg: "Ok", Args: plains("true")}}, Asks: []api.Ask{{Name: "ask", Reply: "Ok"}}, Stop: true, Used: 2}, "a stop in a loop")
}

// P13.2: the paths of new actors count from Kids on, and the reference to the actor itself has its path.
func TestPaths(t *testing.T) {
	for _, c := range []struct {
		path string
		kids int
		want []string
	}{
		{"0", 0, []string{"0.0", "0.1", "0.2"}}, {"0.1.2", 9, []string{"0.1.2.9", "0.1.2.10", "0.1.2.11"}}, {"0.7", 1 << 40, []string{"0.7.1099511627776", "0.7.1099511627777", "0.7.1099511627778"}},
	} {
		p, call := run(t, "let x = spawn W(1, self) send self Ok(true) spawn Idle() do ask() then Ok let y = spawn W(1, self) send self Take(x) send self Take(y)")
		call.Path, call.Kids = c.path, c.kids
		r := mean.Run(p, call)
		if len(r.Sends) != 3 || len(r.Spawns) != 3 || shown(r.Sends[1].Args) != "W@"+c.want[0] || shown(r.Sends[2].Args) != "W@"+c.want[2] || r.Sends[0].To != c.path || shown(r.Spawns[2].Args) != "1 Main@"+c.path {
			t.Errorf("%s, %d: %s", c.path, c.kids, printed(r))
		}
	}
}

// P13.2: the reference to a new actor is stored in its slot, even if that is the first one, and nowhere if there is none.
func TestSlotsOfSpawns(t *testing.T) {
	for _, c := range []struct{ spawn, slot string }{{"spawn0'W'(int1 text)", "0"}, {"spawn0/1'W'(int3 int1 text)", "0"}, {"spawn7'W'(int1 text)", "7"}} {
		p := base()
		p.Actors[0].On = append(p.Actors[0].On, api.Handler{Msg: "Go", Slots: 8, Body: block(c.spawn + " spawn-1'W'(int2 text) send'Do'(local" + c.slot + " int4 text)")})
		r := mean.Run(valid(t, p), api.Call{Actor: "Main", Path: "0.3", Kids: 5, Vars: plains("0"), Msg: "Go"})
		if len(r.Spawns) != 2 || len(r.Sends) != 1 || r.Sends[0].To != "0.3.5" || shown(r.Sends[0].Args) != `4 ""` {
			t.Errorf("%s: %s", c.spawn, printed(r))
		}
	}
}

// P13.2: initializers, with slots, self and no state variables.
func TestInitializers(t *testing.T) {
	p := compiled(t, office+"} }")
	for _, c := range []struct {
		actor string
		args  []api.Value
		want  api.Result
	}{
		{"Main", nil, api.Result{Vars: plains("1", "[3, 4]", "V#2()")}}, {"Idle", nil, api.Result{}},
		{"W", plains("3", "Main@0.1"), api.Result{Vars: plains("3", "W@0.5", "Main@0.1")}}, {"W", plains("-4", "Main@0"), api.Result{Vars: plains("-2", "W@0.5", "Main@0")}}, {"W", plains("0", "Main@0"), fails(api.FZero, 0)},
	} {
		gives(t, p, api.Call{Actor: c.actor, Path: "0.5", Kids: 7, Args: c.args}, c.want, c.actor, shown(c.args))
	}
	p = compiled(t, `
		variant V { A(int), C }
		fun f(n: int): int = n * 2
		actor Main() { }
		actor S(n: int, v: V) {
			state a: int = let x = n + 1 in let y = x * 2 in y - x
			state b: int = match v { A(k) => k * n, C => let z = 3 in z + n }
			state c: [int] = let n = [n] in n ++ n
			state d: int = f((fun(k: int): int = k + n)(1))
			state e: ref S = self
			state g: bool = (fun(): bool = self == self)()
		}`)
	for form, want := range map[string]string{"V#0(5)": "4 15 [3, 3] 8 S@0 true", "V#1()": "4 6 [3, 3] 8 S@0 true"} {
		call := api.Call{Actor: "S", Path: "0", Args: plains("3", form)}
		if r := mean.Run(p, call); shown(r.Vars) != want || r.Used != 3 {
			t.Errorf("%s: %s", form, printed(r))
		}
		if r, _ := modelRun(p, call); !mean.Same(r, mean.Run(p, call)) {
			t.Errorf("%s: the model gives %s", form, printed(r))
		}
	}
	// The first fault counts, and nothing but it is in the result.
	p = compiled(t, "fun f(n: int): int = n actor Main() { state a: int = f(1) state b: int = f(1) / 0 state c: int = at([1], f(2)) }")
	gives(t, p, api.Call{Actor: "Main", Path: "0"}, fails(api.FZero, 2), "two faults")
}

// P13.2: each invocation begins with the Vars of its call.
func TestVars(t *testing.T) {
	p, call := run(t, "a = a + n if a > 20 { a = 1 / 0 } l = l ++ [a]")
	for _, want := range []string{"6 [3, 4, 6] V#2()", "11 [3, 4, 6, 11] V#2()", "16 [3, 4, 6, 11, 16] V#2()"} {
		r := mean.Run(p, call)
		if shown(r.Vars) != want {
			t.Errorf("%s; want %s", shown(r.Vars), want)
		}
		call.Vars = r.Vars
	}
	call.Args[0] = integer(6)
	gives(t, p, call, fails(api.FZero, 0), "a fault")
	call.Args[0] = integer(4)
	if r := mean.Run(p, call); shown(r.Vars) != "20 [3, 4, 6, 11, 16, 20] V#2()" {
		t.Error(shown(r.Vars))
	}
}

// P13.2: the example of the chapter.
func TestExample(t *testing.T) {
	p := compiled(t, "actor Main() { state total: int = 0 on Add(n: int) { total = total + n } }")
	gives(t, p, api.Call{Actor: "Main", Path: "0", Vars: plains("2"), Msg: "Add", Args: plains("3")}, gave(5, 0), "an addition")
}

// P13.2: slots of bodies by hand, which are not those that the checker would choose.
func TestSlots(t *testing.T) {
	for body, want := range map[string]api.Result{
		"let9(add(local0 int1)) set0(local9)":                                                                                                                                                  gave(6, 0),
		"if(bool1)then{let9(int3) set0(local9)}else{let9(text)} let9(int4) set0(local9)":                                                                                                       gave(4, 0),
		"for9(list(int1 int2))then{let4(local9) set0(add(mul(state0 int10) local4))}":                                                                                                          gave(12, 2),
		"match(ctor1'V'(rec'P'(int7 list) text'abc'))arms{arm0/9then{set0(local9)} arm1/8then{set0(add(get0(local8) prim5(local9)))} arm-1/10then{}}":                                          gave(10, 0),
		"match(ctor0'V'(int7))arms{arm2/10then{set0(int1)} arm0/9then{set0(local9)} arm-1then{}}":                                                                                              gave(7, 0),
		"match(ctor2'V')arms{arm0/9then{set0(local9)} arm-1/3then{let3(int5) set0(local3)}}":                                                                                                   gave(5, 0),
		"for1(list(ctor0'V'(int1) ctor2'V' ctor0'V'(int3)))then{match(local1)arms{arm0/2then{set0(add(mul(state0 int10) local2))} arm-1then{let2(int9) set0(add(mul(state0 int10) local2))}}}": gave(193, 3),
		"for1(list(int1 int2))then{for2(list(int3 int4))then{let3(mul(local1 local2)) set0(add(state0 local3))}} let1(state0) set0(neg(local1))":                                               gave(-21, 6),
	} {
		p := valid(t, withBody(body))
		gives(t, p, toMain(5), want, body)
		if r, _ := modelRun(p, toMain(5)); !mean.Same(r, want) {
			t.Errorf("%s: the model gives %s", body, printed(r))
		}
	}
	// Many slots, of which few are used.
	p := withBody("let32766(int5) let7(int6) set0(minus(local32766 local7))")
	p.Actors[0].On[2].Slots = 32768
	gives(t, valid(t, p), toMain(5), gave(-1, 0), "many slots")
	p, fun := withFun("int", "let32767(local0 add(local32767 if(le(local0 int0) int0 call5(minus(local0 int1)))))", "n", "int")
	p.Funs[fun].Slots = 32768
	if v, fault, _ := mean.Eval(valid(t, p), fun, plains("50")); fault != 0 || v.N != 1275 {
		t.Error("many slots in nested calls:", v, fault)
	}
}
