package comp_test

import (
	"strings"
	"testing"

	"retroact/api"
	"retroact/comp"
)

// base returns the program that the tests by hand change.
func base() api.Prog {
	return api.Prog{
		Types: []api.Decl{
			{Name: "P", Record: true, Ctors: []api.Ctor{{Name: "P", Fields: fields("x", "int", "y", "[int]")}}}, {Name: "E", Record: true, Ctors: []api.Ctor{{Name: "E"}}},
			{Name: "V", Ctors: []api.Ctor{{Name: "A", Fields: fields("", "int")}, {Name: "B", Fields: fields("", "P", "", "text")}, {Name: "C"}}}, {Name: "O", Ctors: []api.Ctor{{Name: "O"}}},
		},
		Effects: []api.Effect{{Name: "pay", Params: fields("a", "int", "t", "text"), Answer: typ("bool")}, {Name: "ask", Answer: typ("bool")}},
		Funs: []api.Fun{
			{Name: "f", Params: fields("n", "int"), Result: typ("int"), Slots: 1, Body: expr("local0")},
			{Name: "two", Params: fields("a", "int", "b", "text"), Result: typ("int"), Slots: 2, Body: expr("local0")},
			{Params: fields("a", "int", "b", "text", "c", "int"), Result: typ("int"), Slots: 3, Body: expr("minus(local0 local2)")},
			{Name: "zero", Result: typ("int"), Body: expr("int0")},
		},
		Actors: []api.Actor{
			{Name: "Main", On: []api.Handler{{Msg: "Go"}, {Msg: "Ok", Params: fields("b", "bool"), Slots: 1}, {Msg: "Add", Params: fields("n", "int"), Slots: 1}}},
			{Name: "W", Params: fields("k", "int", "t", "text"), Slots: 2, On: []api.Handler{{Msg: "Do", Params: fields("n", "int", "t", "text"), Slots: 2}, {Msg: "End"}}},
		},
	}
}

// withFun returns the program base with another first function, whose parameters have the slots 0 to 6.
func withFun(form string, x api.Expr) api.Prog {
	p := base()
	p.Funs[0] = api.Fun{Name: "f", Params: fields("n", "int", "t", "text", "l", "[int]", "p", "P", "v", "V", "b", "bool", "g", "fun(int, text): int"), Result: typ(form), Slots: 20, Body: x}
	return p
}

// compiles checks the code of an expression in a function. A target `end` is that of its IReturn.
func compiles(t *testing.T, form, x, want string) {
	t.Helper()
	c := comp.Compile(valid(t, withFun(form, expr(x))))
	a := new(assembler).fun(7, 20, want+" return")
	begins(t, c, a.Code, x)
	if d, ok := comp.Depths(c); !ok || !comp.Right(c) || d[len(a.Ins)-1] != 1 {
		t.Errorf("%s: the code is not valid", x)
	}
}

// P14.1: expressions with one instruction behind those of their Kids.
func TestOperations(t *testing.T) {
	for _, row := range [][3]string{
		{"unit", "unit", "const(unit)"}, {"bool", "bool0", "const(bool0)"}, {"bool", "bool1", "const(bool1)"}, {"int", "int0", "const(int0)"}, {"int", "int9007199254740992", "const(int9007199254740992)"}, {"int", "int-9007199254740992", "const(int-9007199254740992)"},
		{"text", "text", "const(text)"}, {"text", "text'a b'", "const(text'a b')"}, {"int", "local0", "local0"}, {"P", "local3", "local3"}, {"fun(int, text): int", "local6", "local6"},
		{"[int]", "list", "make(list)"}, {"[int]", "list(int1)", "const(int1) make/1(list)"}, {"[int]", "list(int1 local0 int1)", "const(int1) local0 const(int1) make/3(list)"}, {"[[int]]", "list(list list(int1))", "make(list) const(int1) make/1(list) make/2(list)"},
		{"E", "rec'E'", "make(rec'E')"}, {"P", "rec'P'(local0 list)", "local0 make(list) make/2(rec'P')"}, {"V", "ctor2'V'", "make(ctor2'V')"}, {"V", "ctor0'V'(local0)", "local0 make/1(ctor0'V')"}, {"V", "ctor1'V'(local3 local1)", "local3 local1 make/2(ctor1'V')"}, {"O", "ctor0'O'", "make(ctor0'O')"},
		{"int", "get0(local3)", "local3 get0"}, {"[int]", "get1(local3)", "local3 get1"}, {"P", "with0(local3 int2)", "local3 const(int2) with0"}, {"P", "with1(local3 local2)", "local3 local2 with1"},
		{"bool", "not(local5)", "local5 unary18"}, {"int", "neg(local0)", "local0 unary19"}, {"int", "add(local0 int1)", "local0 const(int1) binary20"}, {"int", "minus(int1 local0)", "const(int1) local0 binary21"}, {"int", "mul(local0 int1)", "local0 const(int1) binary22"},
		{"int", "div(local0 int0)", "local0 const(int0) binary23"}, {"int", "mod(local0 int1)", "local0 const(int1) binary24"}, {"text", "cat(local1 text'a')", "local1 const(text'a') binary25"}, {"[int]", "cat(local2 list)", "local2 make(list) binary25"},
		{"bool", "eq(local0 int1)", "local0 const(int1) binary26"}, {"bool", "ne(local4 ctor2'V')", "local4 make(ctor2'V') binary27"}, {"bool", "lt(local0 int1)", "local0 const(int1) binary28"}, {"bool", "le(local1 text'b')", "local1 const(text'b') binary29"}, {"bool", "gt(local0 int1)", "local0 const(int1) binary30"}, {"bool", "ge(int1 local0)", "const(int1) local0 binary31"},
		{"int", "call3", "call3"}, {"int", "call1(local0 local1)", "local0 local1 call1/2"}, {"int", "call2(int1 text int2)", "const(int1) const(text) const(int2) call2/3"}, {"int", "call0(int1 text'' list local3 local4 bool1 local6)", "const(int1) const(text) make(list) local3 local4 const(bool1) local6 call0/7"},
		{"fun(): int", "fun3", "make(fun3)"}, {"fun(): int", "fun1(int4 local1)", "const(int4) local1 make/2(fun1)"}, {"fun(int): int", "fun2(local0 local1)", "local0 local1 make/2(fun2)"}, {"fun(int, text): int", "fun1", "make(fun1)"},
		{"int", "apply(fun3)", "make(fun3) apply0"}, {"int", "apply(local6 int1 local1)", "local6 const(int1) local1 apply2"}, {"int", "apply(fun2(local0 local1) int3)", "local0 local1 make/2(fun2) const(int3) apply1"},
		{"int", "prim1(local2)", "local2 prim1"}, {"int", "prim2(local2 int0)", "local2 const(int0) prim2"}, {"[int]", "prim3(local2 int0 int1)", "local2 const(int0) const(int1) prim3"}, {"[int]", "prim4(local2 int0 int1)", "local2 const(int0) const(int1) prim4"},
		{"int", "prim5(local1)", "local1 prim5"}, {"text", "prim6(local1 int0 int1)", "local1 const(int0) const(int1) prim6"}, {"text", "prim7(local0)", "local0 prim7"},
		{"int", "let7(local1 local0)", "local1 store7 local0"}, {"int", "let19(int1 local19)", "const(int1) store19 local19"}, {"text", "let7(int1 let8(local7 prim7(local8)))", "const(int1) store7 local7 store8 local8 prim7"},
		// Kids are in order, and the constants too.
		{"int", "mul(add(int1 local0) minus(local0 neg(int2)))", "const(int1) local0 binary20 local0 const(int2) unary19 binary21 binary22"}, {"int", "let7(let8(int3 add(local8 int4)) let8(local7 mul(local8 int3)))", "const(int3) store8 local8 const(int4) binary20 store7 local7 store8 local8 const(int3) binary22"},
	} {
		compiles(t, row[0], row[1], row[2])
	}
}

// P14.1: expressions of which only some parts are evaluated.
func TestChoices(t *testing.T) {
	for _, row := range [][3]string{
		{"int", "if(local5 int1 int2)", "local5 false4 const(int1) jump5 const(int2)"}, {"bool", "and(local5 lt(local0 int1))", "local5 false6 local0 const(int1) binary28 jump7 const(bool0)"}, {"bool", "or(local5 lt(local0 int1))", "local5 true6 local0 const(int1) binary28 jump7 const(bool1)"},
		{"bool", "and(bool1 local5)", "const(bool1) false4 local5 jump5 const(bool0)"}, {"bool", "or(bool0 local5)", "const(bool0) true4 local5 jump5 const(bool1)"}, {"bool", "and(local5 bool0)", "local5 false4 const(bool0) jump5 const(bool0)"},
		{"text", "if(eq(local0 int1) if(local5 text'a' text'b') local1)", "local0 const(int1) binary26 false10 local5 false8 const(text'a') jump9 const(text'b') jump11 local1"},
		{"int", "if(local5 int1 if(local5 int2 int3))", "local5 false4 const(int1) jump9 local5 false8 const(int2) jump9 const(int3)"},
		{"int", "if(if(local5 bool0 local5) int1 int2)", "local5 false4 const(bool0) jump5 local5 false8 const(int1) jump9 const(int2)"},
		{"bool", "and(and(local5 local5) local5)", "local5 false4 local5 jump5 const(bool0) false8 local5 jump9 const(bool0)"}, {"bool", "and(local5 and(local5 local5))", "local5 false8 local5 false6 local5 jump7 const(bool0) jump9 const(bool0)"},
		{"bool", "or(and(local5 bool1) not(or(local5 local5)))", "local5 false4 const(bool1) jump5 const(bool0) true13 local5 true10 local5 jump11 const(bool1) unary18 jump14 const(bool1)"},
		{"[int]", "list(if(local5 int1 int2) int3)", "local5 false4 const(int1) jump5 const(int2) const(int3) make/2(list)"}, {"int", "add(int1 if(local5 int1 local0))", "const(int1) local5 false5 const(int1) jump6 local0 binary20"},
		{"int", "let7(if(local5 int1 int2) if(local5 local7 local0))", "local5 false4 const(int1) jump5 const(int2) store7 local5 false10 local7 jump11 local0"},
	} {
		compiles(t, row[0], row[1], row[2])
	}
}

// P14.1: matches.
func TestMatches(t *testing.T) {
	for _, row := range [][3]string{
		// One arm.
		{"int", "match(local4 arm-1(int1))", "local4 pop const(int1)"}, {"int", "match(local4 arm-1/7(local0))", "local4 pop local0"}, {"int", "match(ctor0'O' arm0(int1))", "make(ctor0'O') bind const(int1)"}, {"int", "match(ctor0'O' arm0/20(int1))", "make(ctor0'O') bind20 const(int1)"}, {"int", "match(ctor0'O' arm-1/20(int1))", "make(ctor0'O') pop const(int1)"},
		// Several arms, the last of which is one for every constructor or not.
		{"int", "match(local4 arm0/7(local7) arm-1(local0))", "local4 case0/5 bind7 local7 jump7 pop local0"}, {"int", "match(local4 arm2/0(int1) arm-1/3(int2))", "local4 case2/5 bind const(int1) jump7 pop const(int2)"},
		{"int", "match(local4 arm0/19(local19) arm1/18(get0(local18)) arm2/20(int0))", "local4 case0/5 bind19 local19 jump12 case1/10 bind18 local18 get0 jump12 bind20 const(int0)"},
		{"int", "match(local4 arm2/7(int1) arm1/7(int2) arm0/7(local7))", "local4 case2/5 bind7 const(int1) jump11 case1/9 bind7 const(int2) jump11 bind7 local7"},
		{"text", "match(local4 arm1/7(local8) arm2/9(local1) arm-1/9(text'c'))", "local4 case1/5 bind7 local8 jump11 case2/9 bind9 local1 jump11 pop const(text'c')"},
		{"int", "match(local4 arm2/7(int1) arm1/7(int2) arm0/7(int3))", "local4 case2/5 bind7 const(int1) jump11 case1/9 bind7 const(int2) jump11 bind7 const(int3)"},
		// All constructors, and an arm for the others, which is never reached.
		{"int", "match(local4 arm0/7(local7) arm1/7(int1) arm2/7(int2) arm-1/7(int3))", "local4 case0/5 bind7 local7 jump15 case1/9 bind7 const(int1) jump15 case2/13 bind7 const(int2) jump15 pop const(int3)"},
		{"int", "match(ctor0'O' arm0(int1) arm-1(int2))", "make(ctor0'O') case0/5 bind const(int1) jump7 pop const(int2)"},
		// Matches within the scrutinee and within arms.
		{"int", "match(match(local4 arm2/7(local4) arm-1/7(ctor2'V')) arm0/7(local7) arm-1(int1))", "local4 case2/5 bind7 local4 jump7 pop make(ctor2'V') case0/11 bind7 local7 jump13 pop const(int1)"},
		{"int", "match(local4 arm0/7(match(local4 arm0/8(local8) arm-1(local7))) arm-1(int1))", "local4 case0/11 bind7 local4 case0/8 bind8 local8 jump10 pop local7 jump13 pop const(int1)"},
		{"int", "match(local4 arm0/7(int1) arm-1(match(local4 arm1/7(int2) arm-1(int3))))", "local4 case0/5 bind7 const(int1) jump13 pop local4 case1/11 bind7 const(int2) jump13 pop const(int3)"},
		{"int", "if(match(local4 arm2/7(bool1) arm-1(local5)) match(local4 arm-1(int1)) int2)", "local4 case2/5 bind7 const(bool1) jump7 pop local5 false12 local4 pop const(int1) jump13 const(int2)"},
		{"int", "add(match(local4 arm0/7(if(local5 local7 int1)) arm-1(let7(int2 local7))) int3)", "local4 case0/9 bind7 local5 false7 local7 jump8 const(int1) jump13 pop const(int2) store7 local7 const(int3) binary20"},
	} {
		compiles(t, row[0], row[1], row[2])
	}
}

// P14.1: the example of the chapter.
func TestExample(t *testing.T) {
	c := comp.Compile(compiled(t, "fun f(n: int): int = if n < 0 then 0 else n actor Main() { }"))
	want := new(assembler).fun(1, 1, "local0 const(int0) binary28 false6 const(int0) jump7 local0 return").on("Main", "", 0, 0, "init0").Code
	if printed(c) != printed(want) {
		t.Errorf("%+v; want %+v", c, want)
	}
}

// P14.1: the code of a program that is not valid is zero.
func TestNotValid(t *testing.T) {
	broken := map[string]func(p *api.Prog){
		"nothing":              func(p *api.Prog) { *p = api.Prog{} },
		"no Main":              func(p *api.Prog) { p.Actors = p.Actors[1:] },
		"no operator":          func(p *api.Prog) { p.Funs[0].Body = expr("arm-1(int0)") },
		"operators beyond all": func(p *api.Prog) { p.Funs[0].Body.Op = 37 },
		"negative operators":   func(p *api.Prog) { p.Funs[0].Body.Op = -1 },
		"another type":         func(p *api.Prog) { p.Funs[0].Body = expr("bool0") },
		"a slot not bound":     func(p *api.Prog) { p.Funs[0].Body = expr("local1") },
		"too few Kids":         func(p *api.Prog) { p.Funs[0].Body = expr("if(bool0 int1)") },
		"a match without arms": func(p *api.Prog) { p.Funs[0].Body = expr("match(ctor2'V')") },
		"no scrutinee":         func(p *api.Prog) { p.Funs[0].Body = expr("match") },
		"an arm missing":       func(p *api.Prog) { p.Funs[0].Body = expr("match(ctor2'V' arm2(int1))") },
		"arms behind the last": func(p *api.Prog) { p.Funs[0].Body = expr("match(ctor2'V' arm-1(int1) arm2(int1))") },
		"an unused field":      func(p *api.Prog) { p.Funs[0].Body.M = 1 },
		"no statement":         func(p *api.Prog) { p.Actors[0].On[0].Body = []api.Stmt{{}} },
		"an SArm":              func(p *api.Prog) { p.Actors[0].On[0].Body = block("arm-1then{}") },
		"an SIf without Xs":    func(p *api.Prog) { p.Actors[0].On[0].Body = []api.Stmt{{Op: api.SIf}} },
		"no state variable":    func(p *api.Prog) { p.Actors[0].On[0].Body = block("set0(int0)") },
		"too few Xs":           func(p *api.Prog) { p.Actors[0].On[0].Body = block("after'Go'(int0)") },
		"an unknown message":   func(p *api.Prog) { p.Actors[0].On[0].Body = block("send'Gone'(self)") },
		"too few slots":        func(p *api.Prog) { p.Funs[0].Slots = 0 },
		"too many slots":       func(p *api.Prog) { p.Funs[0].Slots = 32769 },
		"an init without type": func(p *api.Prog) {
			p.Actors[0].Vars = []api.Var{{Name: "a", Type: typ("int"), Init: expr("state0")}}
		},
	}
	for name, change := range broken {
		p := base()
		comp.Compile(valid(t, p))
		change(&p)
		if c := comp.Compile(p); printed(c) != printed(api.Code{}) {
			t.Errorf("%s: %s", name, shortened(c))
		}
	}
	for _, p := range []api.Prog{{Funs: []api.Fun{{}}}, {Actors: []api.Actor{{}}}, {Actors: []api.Actor{{Name: "Main", Slots: -1}}}, {Actors: []api.Actor{{Name: "Main", On: []api.Handler{{Body: []api.Stmt{{Op: api.SMatch}}}}}}}} {
		if c := comp.Compile(p); printed(c) != printed(api.Code{}) {
			t.Errorf("%+v: %s", p, shortened(c))
		}
	}
}

// P14.1: constants are equal if all their fields are, and only then.
func TestConstants(t *testing.T) {
	all := "list(int1 int0) text'1' text'V' text bool0 bool1 unit ctor0'V'(int0) ctor0'O' ctor2'V' rec'P'(int1 list) rec'E' fun1 fun3 fun2(int0 text'1')"
	p := base()
	var want []api.Value
	p.Funs = p.Funs[:4]
	for range 2 {
		for _, x := range exprs(all) {
			p.Actors[0].On[0].Body = append(p.Actors[0].On[0].Body, api.Stmt{Op: api.SLet, N: len(p.Actors[0].On[0].Body), Xs: []api.Expr{x}})
		}
	}
	p.Actors[0].On[0].Slots = 40
	c := comp.Compile(valid(t, p))
	// The int 0 is first, that of the function zero.
	for _, x := range exprs("int0 int1 list text'1' text'V' text bool0 bool1 unit ctor0'V' ctor0'O' ctor2'V' rec'P' rec'E' fun1 fun3 fun2") {
		want = append(want, constantOf(x))
	}
	if printed(c.Consts) != printed(want) {
		t.Errorf("%+v; want %+v", c.Consts, want)
	}
	used := map[int]int{}
	for _, i := range c.Ins {
		if i.Op == comp.IConst || i.Op == comp.IMake {
			used[i.A]++
		}
	}
	for k := range want {
		if used[k] < 2 {
			t.Errorf("constant %d is used %d times", k, used[k])
		}
	}
	if strings.Contains(printed(c.Consts), "L:[{") {
		t.Errorf("a constant has elements: %+v", c.Consts)
	}
}
