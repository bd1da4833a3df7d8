package core_test

import (
	"math"
	"slices"
	"strings"
	"testing"

	"retroact/api"
	"retroact/core"
)

// withBody returns a program with an actor type Body, which has a handler with statements. Its parameters have the slots 0 to 7; the slots 8 to 11 are not bound.
func withBody(l []api.Stmt) api.Prog {
	p := base()
	params := fields("a", "int", "b", "text", "c", "[int]", "d", "P", "e", "V", "f", "ref W", "g", "bool", "h", "ref Main")
	p.Actors = append(p.Actors, api.Actor{
		Name: "Body",
		Vars: []api.Var{{Name: "n", Type: typ("int"), Init: expr("int")}, {Name: "l", Type: typ("[int]"), Init: expr("list")}, {Name: "v", Type: typ("V"), Init: expr("ctor2'V'")}, {Name: "u", Type: typ("ref Body"), Init: expr("self")}},
		On: []api.Handler{
			{Msg: "Run", Params: params, Slots: 12, Body: l}, {Msg: "Paid", Params: fields("b", "bool"), Slots: 1}, {Msg: "Two", Params: fields("b", "bool", "c", "bool"), Slots: 2},
			{Msg: "None"}, {Msg: "Reply", Params: fields("t", "text"), Slots: 1}, {Msg: "Told", Params: fields("u", "[V]"), Slots: 2},
		},
	})
	return p
}

// validStatements contains lists of each kind of statement.
func validStatements() []string {
	return []string{
		"", "stop", "stop stop", "fail(text)", "fail(local1)", "fail(cat(local1 text'a'))",
		"let8(int1)", "let11(int1)", "let8(fun0) let9(apply(local8 int1))", "let8(int1) set0(local8)", "let11(list(text)) let8(local11)", "let8(self)", "let8(state2)", "let8(let9(int1 local9)) let9(local8)",
		"set0(int1)", "set1(list)", "set2(ctor2'V')", "set3(self)", "set0(add(state0 local0))", "set1(state1)", "set2(get1(rec'N'(local3 state2)))", "set3(state3)",
		"if(local6)", "if(bool1)then{set0(int1)}", "if(bool1)else{set0(int1)}", "if(bool1)then{let8(int1) set0(local8)}else{let8(text) fail(local8)} let8(list(int1)) set1(local8)", "let8(int1) if(bool1)then{set0(local8)}else{set0(local8)}",
		"match(local4)arms{arm0/8then{set0(local8)} arm1/8then{fail(local9)} arm2/8}", "match(local4)arms{arm-1/12}", "match(local4)arms{arm2/12 arm-1/0then{let8(int1)}} let8(text)", "match(local4)arms{arm1/10then{let8(local10) let9(local11)} arm-1}",
		"match(ctor0'O')arms{arm0}", "match(state2)arms{arm0/8 arm1/9 arm2/10 arm-1/11}", "match(local4)arms{arm0/8then{match(local4)arms{arm0/9then{set0(add(local8 local9))} arm-1}} arm-1} let8(int1) let9(int1)",
		"for8(local2)", "for8(local2)then{set0(local8)}", "for11(list(text))then{fail(local11)}", "for8(local2) for8(list(text)) let8(int1)", "for8(local2)then{for9(list(local8))then{let10(add(local8 local9))}} let10(text)", "for8(list(fun0))then{set0(apply(local8 int1))}",
		"send'Do'(local5 int1 text)", "send'End'(local5)", "send'Ok'(local7 bool1)", "send'Run'(self int1 text list local3 local4 local5 bool1 local7)", "send'None'(self)", "send'None'(local7)", "send'None'(state3)", "send'None'(call4)", "send'Told'(self list)",
		"after'Do'(int1 local5 int2 text)", "after'End'(local0 local5)", "after'None'(state0 self)", "after'Told'(int1 local7 list)",
		"spawn-1'Main'", "spawn8'Main' send'None'(local8)", "spawn8/1'W'(int1 int2 local7)", "spawn8'W'(int2 local7) spawn9'W'(int1 local7) send'End'(local9)", "spawn-1/1'Main'(local0)", "spawn-1'W'(int1 local7) spawn-1'Body'", "spawn11'Body' set3(local11)",
		"if(bool1)then{spawn8'Main'} spawn8'W'(int1 local7) send'End'(local8)", "for8(local2)then{spawn9'Main' let10(local9)} spawn8'Body'",
		"do'pay''Paid'(int1 text)", "do'ask''Reply'", "do'tell''Told'(list)", "do'tell''Told'(list(local4)) do'pay''Paid'(local0 local1)",
		"let8(int1) let9(int2) let10(int3) let11(int4) set0(add(add(local8 local9) add(local10 local11)))",
	}
}

// invalidStatements contains lists of statements of which one condition does not hold.
func invalidStatements() []string {
	return slices.Concat([]string{
		"arm-1", "arm0/8", "arm", "fail", "fail(int1)", "fail(local8)", "fail(list)", "fail(text text)", "stop(int1)",
		"let8", "let8(list)", "let8(local8)", "let8(local9)", "let8(int1 int2)", "let-1(int1)", "let12(int1)", "let0(int1)", "let7(int1)", "let9223372036854775807(int1)", "let8(int1) let8(int1)", "let8(int1) let9(int2) let8(int3)", "set0(local8) let8(int1)",
		"let8(int1) set0(let8(int2 local8))", "set0(let8(int1 local8)) set0(local8)", "let8(arm-1(int1))",
		"set0", "set0(text)", "set-1(int1)", "set4(int1)", "set9223372036854775807(int1)", "set0(list)", "set1(int1)", "set1(list(text))", "set3(local7)", "set0(int1 int2)", "set0(state1)", "set0(state4)", "set0(state-1)",
		"if", "if(int1)", "if(list)", "if(local8)", "if(bool1 bool1)", "if(bool1)then{set0(text)}", "if(bool1)else{set0(text)}", "if(bool1)then{let8(int1)} set0(local8)", "if(bool1)then{let8(int1)}else{set0(local8)}", "let8(int1) if(bool1)then{let8(int1)}", "let8(int1) if(bool1)else{let8(int1)}", "if(bool1)then{arm-1}",
		"match(int1)arms{arm-1}", "match", "match(local4)", "match(local3)arms{arm-1}", "match(list)arms{arm-1}", "match(local8)arms{arm-1}", "match(local4 local4)arms{arm-1}", "match(local4)arms{stop}", "match(local4)arms{arm-1 stop}", "match(local4)arms{match(local4)arms{arm-1}}",
		"match(local4)arms{arm0/8}", "match(local4)arms{arm0/8 arm1/8}", "match(local4)arms{arm0/8 arm0/8 arm1/8}", "match(local4)arms{arm2 arm2 arm-1}", "match(local4)arms{arm-1 arm0/8}", "match(local4)arms{arm-1 arm-1}", "match(local4)arms{arm0/8 arm1/8 arm2 arm-1 arm-1}", "match(local4)arms{arm-2}", "match(local4)arms{arm3 arm-1}", "match(ctor0'O')arms{arm1}",
		"match(local4)arms{arm0/7 arm-1}", "match(local4)arms{arm0/12 arm-1}", "match(local4)arms{arm0/-1 arm-1}", "match(local4)arms{arm1/11 arm-1}", "match(local4)arms{arm1/7 arm-1}", "match(local4)arms{arm2/13 arm-1}", "match(local4)arms{arm2/-1 arm-1}", "match(local4)arms{arm-1/13}", "match(local4)arms{arm-1/-1}", "let9(int1) match(local4)arms{arm1/8 arm-1}", "match(local4)arms{arm0/9223372036854775807 arm-1}",
		"match(local4)arms{arm0/8 arm-1then{set0(local8)}}", "match(local4)arms{arm0/8 arm-1} set0(local8)", "match(local4)arms{arm0/8then{let9(int1)} arm-1then{set0(local9)}}", "match(local4)arms{arm0/8then{let8(int1)} arm-1}", "match(local4)arms{arm0/8then{set0(text)} arm-1}", "match(local4)arms{arm0/8 arm-1then{set0(text)}}",
		"match(local4)arms{arm-1'V'}", "match(local4)arms{arm-1'''x'}", "match(local4)arms{arm-1(int1)}", "match(local4)arms{arm-1else{stop}}", "match(local4)arms{arm-1arms{arm-1}}",
		"for8", "for8(int1)", "for8(text)", "for8(list)", "for8(local8)", "for8(local2 local2)", "for-1(local2)", "for12(local2)", "for0(local2)", "for7(local2)", "for8(local2)then{fail(local8)}", "for8(local2)then{let8(int1)}", "for8(local2) set0(local8)", "for8(local2)then{let9(int1)} set0(local9)", "let8(int1) for8(local2)", "for8(local2)then{for8(local2)}", "for8(local3)", "for9223372036854775807(local2)",
	}, invalidOutputs())
}

// invalidOutputs contains statements with outputs of which one condition does not hold.
func invalidOutputs() []string {
	return []string{
		"send", "send'Do'", "send'End'", "send'Nope'(local5)", "send(local5)", "send'End'(local7)", "send'End'(int1)", "send'End'(local4)", "send'End'(list)", "send'End'(local8)", "send'End'(local5 int1)", "send'Do'(local5)", "send'Do'(local5 int1)", "send'Do'(local5 text int1)", "send'Do'(local5 int1 text int1)", "send'Do'(int1 local5 text)", "send'do'(local5 int1 text)", "send'Ok'(local5 bool1)", "send'Ok'(local7 int1)", "send'W'(local5)",
		"after", "after'End'", "after'End'(int1)", "after'End'(local5)", "after'End'(local5 int1)", "after'End'(text local5)", "after'End'(int1 int1)", "after'End'(int1 local7)", "after'End'(int1 local5 int1)", "after'Do'(int1 local5 int1)", "after'Do'(int1 local5 text int1)", "after'Nope'(int1 local5)", "after(int1 local5)", "after'End'(list local5)", "after'End'(int1 local8)", "after'End'(local8 local5)",
		"spawn-1", "spawn-1'Nope'", "spawn-1'P'", "spawn-1'V'", "spawn-1'main'", "spawn-1'W'", "spawn-1'W'(int1)", "spawn-1'W'(local7 int1)", "spawn-1'W'(int1 local5)", "spawn-1'W'(int1 local7 int1)", "spawn-1'Main'(int1)", "spawn-1/2'Main'", "spawn-1/2'Main'(int1)", "spawn-1/-1'Main'", "spawn-1/-1'Main'(int1)", "spawn-1/1'Main'", "spawn-1/1'Main'(text)", "spawn-1/1'Main'(local8)", "spawn-1/1'Main'(int1 int1)", "spawn-1/1'W'(int1 local7)", "spawn-1/1'W'(text int1 local7)", "spawn-1/1'W'(local8 int1 local7)",
		"spawn-2'Main'", "spawn0'Main'", "spawn7'Main'", "spawn12'Main'", "spawn9223372036854775807'Main'", "let8(int1) spawn8'Main'", "spawn8'Main' let8(int1)", "spawn8'Main' spawn8'Main'", "spawn8'W'(int1 local8)", "send'None'(local8) spawn8'Main'", "if(bool1)then{spawn8'Main'} send'None'(local8)", "spawn-1'Main' send'None'(local-1)", "spawn8'Main' send'End'(local8)", "for8(local2)then{spawn8'Main'}",
		"do", "do'pay'", "do'pay''Paid'", "do'pay''Paid'(int1)", "do'pay''Paid'(text int1)", "do'pay''Paid'(int1 text int1)", "do'pay''Paid'(int1 local8)", "do'nope''Paid'(int1 text)", "do'Paid''pay'(int1 text)", "do'f''Paid'(int1 text)", "do'pay''Nope'(int1 text)", "do'pay''Ok'(int1 text)", "do'pay''Two'(int1 text)", "do'pay''None'(int1 text)", "do'pay''Reply'(int1 text)", "do'ask''Paid'", "do'ask''Told'", "do'ask''Reply'(int1)", "do'ask'", "do'''Reply'", "do'tell''Told'", "do'tell''Told'(list(int1))", "do'tell''Reply'(list)", "do'pay''Run'(int1 text)",
	}
}

// P11.1: lists of statements of each kind.
func TestStatements(t *testing.T) {
	for _, s := range validStatements() {
		right(t, withBody(block(s)), true, s)
		right(t, withBody([]api.Stmt{{Op: api.SIf, Xs: exprs("bool1"), Then: block(s)}}), true, s)
		right(t, withBody([]api.Stmt{{Op: api.SIf, Xs: exprs("bool1"), Else: block(s)}}), true, s)
		right(t, withBody([]api.Stmt{{Op: api.SMatch, Xs: exprs("local4"), Arms: []api.Stmt{{Op: api.SArm, N: -1, Then: block(s)}}}}), true, s)
	}
}

// P11.1: lists of statements of which one condition does not hold.
func TestInvalidStatements(t *testing.T) {
	for _, s := range invalidStatements() {
		right(t, withBody(block(s)), false, s)
		right(t, withBody(append(block("stop"), block(s)...)), false, s)
		right(t, withBody(append(block(s), block("stop")...)), false, s)
		right(t, withBody([]api.Stmt{{Op: api.SFor, N: 11, Xs: exprs("local2"), Then: block(s)}}), false, s)
	}
}

// fieldsOf names the fields that the operator of a statement uses, of n, m, s, t, and the initials of Then, Else and Arms.
func fieldsOf(op int) string {
	return map[int]string{api.SLet: "n", api.SSet: "n", api.SIf: "TE", api.SMatch: "A", api.SArm: "nmT", api.SFor: "nT", api.SSend: "s", api.SAfter: "s", api.SSpawn: "nms", api.SDo: "st"}[op]
}

// damagedStatements returns a statement with something that no valid one has.
func damagedStatements(x api.Stmt) []api.Stmt {
	var l []api.Stmt
	change := func(field string, f func(x *api.Stmt)) {
		if field == "" || !strings.Contains(fieldsOf(x.Op), field) {
			y := copied(x)
			f(&y)
			l = append(l, y)
		}
	}
	for _, n := range []int{1, -1, 2, 8, math.MinInt, math.MaxInt} {
		change("n", func(x *api.Stmt) { x.N = n })
		change("m", func(x *api.Stmt) { x.M = n })
	}
	for _, s := range []string{"Main", "End", "pay", "\x00", " "} {
		change("s", func(x *api.Stmt) { x.S = s })
		change("t", func(x *api.Stmt) { x.T = s })
	}
	for _, inner := range []string{"stop", "arm-1", "let8(int1)"} {
		change("T", func(x *api.Stmt) { x.Then = block(inner) })
		change("E", func(x *api.Stmt) { x.Else = block(inner) })
		change("A", func(x *api.Stmt) { x.Arms = block(inner) })
	}
	for _, op := range []int{0, -1, api.SArm, 13, 14, math.MinInt, math.MaxInt} {
		change("", func(x *api.Stmt) { x.Op = op })
	}
	if len(x.Xs) > 0 {
		change("", func(x *api.Stmt) { x.Xs = x.Xs[1:] })
		change("", func(x *api.Stmt) { x.Xs = x.Xs[:len(x.Xs)-1] })
		change("", func(x *api.Stmt) { x.Xs = nil })
	}
	for _, extra := range []string{"unit", "int1", "self", "local99"} {
		change("", func(x *api.Stmt) { x.Xs = append(x.Xs, expr(extra)) })
		change("", func(x *api.Stmt) { x.Xs = append(exprs(extra), x.Xs...) })
	}
	return l
}

// P11.1: no statement is valid with a field that must be zero, an operator that is none, or a wrong number of Xs.
func TestDamagedStatements(t *testing.T) {
	for _, s := range validStatements() {
		whole := block(s)
		for k := range whole {
			for _, x := range damagedStatements(whole[k]) {
				l := slices.Clone(whole)
				l[k] = x
				if core.Right(withBody(l)) {
					t.Errorf("%s is still valid with %+v", s, x)
				}
			}
		}
	}
}

// P11.1: what the Inits of an actor may use, and the handlers, which have scopes of their own.
func TestScopesOfActors(t *testing.T) {
	for _, c := range []struct {
		form, init string
		want       bool
	}{
		{"ref Body", "self", true}, {"ref Main", "self", false}, {"int", "state0", false}, {"bool", "state0", false}, {"int", "state-1", false}, {"int", "local0", true}, {"text", "local0", false}, {"ref Main", "local1", true}, {"int", "local2", false}, {"int", "local-1", false},
		{"int", "let2(int1 local2)", true}, {"int", "let3(local0 add(local3 local0))", true}, {"int", "let4(int1 int1)", false}, {"int", "let1(int1 int1)", false}, {"int", "let0(int1 int1)", false}, {"int", "let2(int1 let3(int1 local2))", true}, {"int", "let2(int1 let2(int1 int1))", false},
		{"[int]", "list", true}, {"[V]", "list", true}, {"[int]", "list(text)", false}, {"int", "text", false}, {"V", "ctor0'V'(local0)", true}, {"int", "match(ctor0'V'(int1) arm0/2(local2) arm-1/4(int1))", true}, {"int", "match(ctor0'V'(int1) arm0/4(int1) arm-1(int1))", false}, {"int", "match(ctor0'V'(int1) arm1/3(int1) arm-1(int1))", false},
	} {
		// Both Inits use the same slots, after each other.
		a := api.Actor{Name: "Body", Params: fields("k", "int", "m", "ref Main"), Slots: 4, Vars: []api.Var{{Name: "x", Type: typ("bool"), Init: expr("let2(bool1 let3(bool1 local2))")}, {Name: "y", Type: typ(c.form), Init: expr(c.init)}, {Name: "z", Type: typ(c.form), Init: expr(c.init)}}}
		p := base()
		p.Actors = append(p.Actors, a)
		right(t, p, c.want, c.form, " ", c.init)
	}
	for _, c := range []struct {
		body string
		want bool
	}{
		{"", true}, {"set0(local0)", true}, {"set0(local1)", false}, {"let1(local0) set0(local1)", true}, {"let2(int1)", false}, {"set0(state0)", true}, {"set1(state1)", true}, {"set1(self)", true}, {"set2(int1)", false}, {"set0(state2)", false}, {"set0(self)", false}, {"let0(int1)", false},
		{"send'A'(self int1)", true}, {"send'B'(self)", true}, {"do'ask''R'", true}, {"do'ask''Reply'", false},
	} {
		// The parameters of the actor are not those of its handlers, and each handler has its own slots.
		a := api.Actor{
			Name: "Body", Params: fields("p", "ref Main", "q", "ref Main", "r", "ref Main"), Slots: 3,
			Vars: []api.Var{{Name: "x", Type: typ("int"), Init: expr("int1")}, {Name: "y", Type: typ("ref Body"), Init: expr("self")}},
			On:   []api.Handler{{Msg: "A", Params: fields("n", "int"), Slots: 2, Body: block(c.body)}, {Msg: "B"}, {Msg: "R", Params: fields("t", "text"), Slots: 2, Body: block("let1(local0)")}, {Msg: "C", Params: fields("n", "int"), Slots: 2, Body: block(c.body)}},
		}
		p := base()
		p.Actors = append(p.Actors, a)
		right(t, p, c.want, c.body)
	}
}
