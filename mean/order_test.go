package mean_test

import (
	"strconv"
	"strings"
	"testing"

	"retroact/api"
	"retroact/core"
	"retroact/mean"
)

// base returns the program that the tests by hand extend.
func base() api.Prog {
	return api.Prog{
		Types: []api.Decl{
			{Name: "P", Record: true, Ctors: []api.Ctor{{Name: "P", Fields: fields("x", "int", "y", "[int]")}}},
			{Name: "V", Ctors: []api.Ctor{{Name: "A", Fields: fields("", "int")}, {Name: "B", Fields: fields("", "P", "", "text")}, {Name: "C"}}},
		},
		Effects: []api.Effect{{Name: "pay", Params: fields("a", "int", "t", "text"), Answer: typ("bool")}, {Name: "ask", Answer: typ("bool")}},
		Funs: []api.Fun{
			{Name: "two", Params: fields("a", "int", "b", "text"), Result: typ("int"), Slots: 2, Body: expr("local0")},
			{Params: fields("a", "int", "b", "text", "c", "int"), Result: typ("int"), Slots: 3, Body: expr("minus(local0 local2)")},
			{Name: "down", Params: fields("n", "int"), Result: typ("int"), Slots: 1, Body: expr("if(le(local0 int0) int0 call2(minus(local0 int1)))")},
			{Name: "hold", Params: fields("l", "[[int]]"), Result: typ("fun(): [[int]]"), Slots: 1, Body: expr("fun4(local0)")},
			{Params: fields("l", "[[int]]"), Result: typ("[[int]]"), Slots: 1, Body: expr("local0")},
		},
		Actors: []api.Actor{
			{Name: "Main", Vars: []api.Var{{Name: "n", Type: typ("int"), Init: expr("int0")}}, On: []api.Handler{{Msg: "Ok", Params: fields("b", "bool"), Slots: 1}, {Msg: "Add", Params: fields("n", "int"), Slots: 1}}},
			{Name: "W", Params: fields("k", "int", "t", "text"), Slots: 2, On: []api.Handler{{Msg: "Do", Params: fields("n", "int", "t", "text"), Slots: 2}}},
		},
	}
}

// withFun returns the program base with a function behind the others.
func withFun(form, x string, params ...string) (api.Prog, int) {
	p := base()
	ps := fields(params...)
	p.Funs = append(p.Funs, api.Fun{Params: ps, Result: typ(form), Slots: len(ps) + 10, Body: expr(x)})
	return p, len(p.Funs) - 1
}

// withBody returns the program base with a handler Go of Main, with a parameter n.
func withBody(body string) api.Prog {
	p := base()
	p.Actors[0].On = append(p.Actors[0].On, api.Handler{Msg: "Go", Params: fields("n", "int"), Slots: 10, Body: block(body)})
	return p
}

// toMain returns a call of the handler Go of Main.
func toMain(n int) api.Call {
	return api.Call{Actor: "Main", Path: "0.3", Kids: 5, Vars: []api.Value{integer(0)}, Msg: "Go", Args: []api.Value{integer(n)}}
}

// ordered are expressions of which all Kids are evaluated, as the parts around their Kids, with the types of the Kids in between.
func ordered() []string {
	return []string{
		"list( |int| |int| |int| )", "rec'P'( |int| |[int]| )", "ctor1'V'( |P| |text| )", "ctor0'V'( |int| )", "get0( |P| )", "with0( |P| |int| )", "with1( |P| |[int]| )", "not( |bool| )", "neg( |int| )",
		"add( |int| |int| )", "minus( |int| |int| )", "mul( |int| |int| )", "div( |int| |int| )", "mod( |int| |int| )", "cat( |text| |text| )", "cat( |[int]| |[int]| )",
		"eq( |V| |V| )", "ne( |int| |int| )", "lt( |int| |int| )", "le( |text| |text| )", "gt( |int| |int| )", "ge( |text| |text| )",
		"call0( |int| |text| )", "fun1( |int| |text| )", "apply(fun0 |int| |text| )", "apply(fun1( |int| |text| ) |int| )", "apply( |fun(int, text): int| |int| |text| )",
		"prim1( |[int]| )", "prim2( |[int]| |int| )", "prim3( |[int]| |int| |int| )", "prim4( |[int]| |int| |int| )", "prim5( |text| )", "prim6( |text| |int| |int| )", "prim7( |int| )", "let5( |int| let6( |text| local5))", "and( |bool| |bool| )", "or(not( |bool| ) |bool| )", "if( |bool| |int| int0)", "if(not( |bool| ) int0 |int| )",
		"match( |V| arm-1( |int| ))", "match( |V| arm0/5(add( |int| local5)) arm-1(int0))",
	}
}

// goods are expressions of the types of Kids with which nothing fails, and with which all Kids are evaluated.
func goods(form string) string {
	return map[string]string{"int": "int1", "text": "text'abc'", "bool": "bool1", "[int]": "list(int4 int5 int6)", "P": "rec'P'(int1 list(int2))", "V": "ctor0'V'(int3)", "fun(int, text): int": "fun0"}[form]
}

// failing returns an expression that has a fault, in the place of a good one.
func failing(good string, fault int) string {
	index := map[int]string{api.FIndex: "int1", api.FZero: "div(int1 int0)", api.FOver: "add(int9007199254740992 int1)", api.FSize: "prim5(cat(text'" + strings.Repeat("x", 4096) + "' text'x'))", api.FDepth: "call2(int200)"}[fault]
	return "prim2(list(" + good + ") " + index + ")"
}

// P13.2, P13.3: Kids are evaluated from left to right, and the first fault counts.
func TestOrderOfKids(t *testing.T) {
	faults := []int{api.FIndex, api.FZero, api.FOver, api.FSize, api.FDepth}
	for _, row := range ordered() {
		words := strings.Split(row, "|")
		result := "int"
		forms := []string{"int", "[int]", "P", "V", "bool", "text", "fun(int): int"}
		for _, form := range forms {
			if p, _ := withFun(form, filled(words, nil)); core.Right(p) {
				result = form
			}
		}
		count := len(words) / 2
		for j := range count {
			for k := j; k < count; k++ {
				for at, fault := range faults {
					bad := map[int]int{j: fault}
					if k > j {
						bad[k] = faults[(at+1)%len(faults)]
					}
					p, fun := withFun(result, filled(words, bad))
					if v, got, why := mean.Eval(valid(t, p), fun, nil); got != fault || why != "" || printed(v) != printed(api.Value{}) {
						t.Errorf("%s: the fault %d, want %d", filled(words, bad), got, fault)
					}
				}
			}
		}
		p, fun := withFun(result, filled(words, nil))
		if _, got, _ := mean.Eval(valid(t, p), fun, nil); got != api.FNone {
			t.Errorf("%s has a fault", row)
		}
	}
}

// filled returns an expression with Kids some of which have faults.
func filled(words []string, bad map[int]int) string {
	var l []string
	for k, word := range words {
		if k%2 == 1 {
			word = goods(word)
			if fault, found := bad[k/2]; found {
				word = failing(word, fault)
			}
		}
		l = append(l, word)
	}
	return strings.NewReplacer("( ", "(", " )", ")", "  ", " ").Replace(strings.Join(l, ""))
}

// P13.2: the expressions of statements are evaluated from left to right, and their faults come before those of the statements.
func TestOrderOfStatements(t *testing.T) {
	bad := func(good string, fault int) string { return failing(good, fault) }
	zero, over := api.FZero, api.FOver
	me, one, a := "self", "int1", "text'a'"
	for _, c := range []struct {
		body  string
		fault int
	}{
		{"let1(" + bad(one, zero) + ") fail(text)", zero}, {"set0(" + bad(one, zero) + ") fail(text)", zero}, {"if(" + bad("bool1", zero) + ")then{fail(text)}else{fail(text)}", zero}, {"match(" + bad("ctor2'V'", zero) + ")arms{arm-1then{fail(text)}}", zero},
		{"for1(" + bad("list(int1)", zero) + ")then{fail(text)}", zero}, {"for1(list(int1 " + bad(one, zero) + "))then{fail(text)}", zero}, {"fail(" + bad("text", zero) + ")", zero},
		{"send'Add'(" + bad(me, zero) + " " + bad(one, over) + ")", zero}, {"send'Add'(" + me + " " + bad(one, over) + ")", over},
	} {
		gives(t, valid(t, withBody(c.body)), toMain(1), fails(c.fault, 0), c.body)
	}
	// The expressions of statements with several of them, each of which is changed in turn.
	for _, s := range [][]string{
		{"send'Add'(", me, one, ")"}, {"after'Add'(", one, me, one, ")"}, {"spawn-1'W'(", one, a, ")"}, {"spawn-1/1'W'(", one, one, a, ")"}, {"do'pay''Ok'(", one, a, ")"}, {"spawn1/1'W'(int0 int1 text) send'Do'(", "local1", one, a, ")"}, {"spawn2'W'(int1 text) after'Do'(", one, "local2", one, a, ")"},
		// A delay and a node that are out of range.
		{"after'Add'(int0 ", me, one, ")"}, {"spawn-1/1'W'(int8 ", one, a, ")"},
	} {
		xs := s[1 : len(s)-1]
		for j := range xs {
			for k := j; k < len(xs); k++ {
				l := append([]string{}, xs...)
				l[k] = bad(l[k], over)
				l[j] = bad(xs[j], zero)
				body := s[0] + strings.Join(l, " ") + ")"
				gives(t, valid(t, withBody(body)), toMain(1), fails(zero, 0), body)
			}
		}
	}
}

// P13.2, P13.3: the fault of an operator, which comes behind those of its Kids.
func TestOwnFaults(t *testing.T) {
	big := "text'" + strings.Repeat("x", 4096) + "'"
	for _, c := range []struct {
		form, x string
		fault   int
	}{
		{"int", "div(" + failing("int1", api.FOver) + " int0)", api.FOver}, {"int", "div(int1 " + failing("int0", api.FIndex) + ")", api.FIndex}, {"int", "div(int1 int0)", api.FZero}, {"int", "mul(int9007199254740992 " + failing("int2", api.FZero) + ")", api.FZero},
		{"[int]", "prim3(list int0 " + failing("int2", api.FZero) + ")", api.FZero}, {"[int]", "prim3(list int0 int2)", api.FIndex}, {"text", "prim6(text int1 " + failing("int2", api.FZero) + ")", api.FZero}, {"text", "prim6(text int1 int2)", api.FIndex}, {"int", "prim2(list(int1) " + failing("int2", api.FOver) + ")", api.FOver},
		{"text", "cat(" + big + " " + failing("text'x'", api.FZero) + ")", api.FZero}, {"text", "cat(" + big + " text'x')", api.FSize}, {"[int]", "prim4(list int1 " + failing("int2", api.FZero) + ")", api.FZero}, {"[int]", "prim4(list int1 int2)", api.FIndex},
	} {
		p, fun := withFun(c.form, c.x)
		if _, got, _ := mean.Eval(valid(t, p), fun, nil); got != c.fault {
			t.Errorf("%s: the fault %d, want %d", shortened(c.x), got, c.fault)
		}
	}
}

// P13.2, P13.3: in a match, the first arm for the value counts, and its slots are those from M on.
func TestMatches(t *testing.T) {
	for _, c := range []struct {
		x, a, b, c string
	}{
		{"match(local0 arm0/5(local5) arm1/6(get0(local6)) arm2(int9))", "7", "3", "9"},
		{"match(local0 arm2/11(int9) arm1/9(prim5(local10)) arm0/10(local10))", "7", "2", "9"},
		{"match(local0 arm0/5(local5) arm-1/11(int4))", "7", "4", "4"}, {"match(local0 arm-1/11(int4))", "4", "4", "4"}, {"match(local0 arm1/1(get0(local1)) arm-1(int4))", "4", "3", "4"}, {"match(local0 arm2(int1) arm-1(int4))", "4", "4", "1"},
		{"match(local0 arm0/5(match(local0 arm0/6(minus(mul(local5 int10) local6)) arm-1(int0))) arm-1(int1))", "63", "1", "1"},
		{"let5(int2 match(local0 arm0/6(minus(local5 local6)) arm1/6(add(local5 prim5(local7))) arm2/6(local5)))", "-5", "4", "2"},
		{"add(match(local0 arm0/5(local5) arm-1(int1)) match(local0 arm1/5(prim5(local6)) arm-1(let5(int30 local5))))", "37", "3", "31"},
		{"match(match(local0 arm0/5(ctor1'V'(rec'P'(local5 list) text'xyz')) arm1/5(ctor0'V'(get0(local5))) arm2(local0)) arm0/5(local5) arm1/5(add(get0(local5) prim5(local6))) arm2(int8))", "10", "3", "8"},
	} {
		p, fun := withFun("int", c.x, "v", "V")
		for v, want := range map[string]string{"V#0(7)": c.a, `V#1(P{3, []}, "ab")`: c.b, "V#2()": c.c} {
			got, fault, _ := mean.Eval(valid(t, p), fun, plains(v))
			if fault != 0 || shown([]api.Value{got}) != want {
				t.Errorf("%s of %s: %s, fault %d; want %s", c.x, v, shown([]api.Value{got}), fault, want)
			}
		}
	}
	// A variant with more constructors than a valid value has.
	p := base()
	d := api.Decl{Name: "Wide"}
	for k := range 5000 {
		d.Ctors = append(d.Ctors, api.Ctor{Name: "K" + strconv.Itoa(k), Fields: fields("", "int")})
	}
	p.Types = append(p.Types, d)
	p.Funs = append(p.Funs, api.Fun{Name: "wide", Result: typ("int"), Slots: 1, Body: expr("match(ctor4999'Wide'(int5) arm903/0(int1) arm4998/0(int2) arm4999/0(add(local0 int30)) arm-1(int4))")})
	if v, fault, _ := mean.Eval(valid(t, p), len(p.Funs)-1, nil); fault != 0 || v.N != 35 {
		t.Error("the last one of many constructors:", v, fault)
	}
}
