package comp_test

import (
	"testing"

	"retroact/api"
	"retroact/comp"
)

// levels are a little fewer than the levels of nesting that the document allows.
const levels = 65000

// deepExprs are expressions of the type int around another one, with the depth of the stack there.
func deepExprs() map[string]func(x api.Expr) api.Expr {
	with := func(op int, kids ...api.Expr) api.Expr { return api.Expr{Op: op, Kids: kids} }
	one, yes := expr("int1"), expr("bool1")
	return map[string]func(x api.Expr) api.Expr{
		"neg": func(x api.Expr) api.Expr { return with(api.XNeg, x) }, "right": func(x api.Expr) api.Expr { return with(api.XMul, one, x) }, "left": func(x api.Expr) api.Expr { return with(api.XMul, x, one) },
		"then": func(x api.Expr) api.Expr { return with(api.XIf, yes, x, one) }, "else": func(x api.Expr) api.Expr { return with(api.XIf, yes, one, x) }, "if": func(x api.Expr) api.Expr { return with(api.XIf, with(api.XLt, x, one), one, one) },
		"let": func(x api.Expr) api.Expr { return api.Expr{Op: api.XLet, N: 7, Kids: []api.Expr{x, expr("local7")}} }, "apply": func(x api.Expr) api.Expr { return with(api.XApply, expr("fun1"), x, expr("text")) },
		"arm": func(x api.Expr) api.Expr {
			return with(api.XMatch, expr("local4"), api.Expr{Op: api.XArm, N: 2, M: 7, Kids: []api.Expr{x}}, expr("arm-1(int0)"))
		},
		"last arm": func(x api.Expr) api.Expr {
			return with(api.XMatch, expr("local4"), expr("arm0/7(int0)"), api.Expr{Op: api.XArm, N: -1, Kids: []api.Expr{x}})
		},
	}
}

// P1, P14.1, P14.4: expressions that are nested as deep as the document allows.
func TestDeepExpressions(t *testing.T) {
	for name, f := range deepExprs() {
		x := expr("local0")
		for range levels {
			x = f(x)
		}
		c := comp.Compile(valid(t, withFun("int", x)))
		d, ok := comp.Depths(c)
		if !ok || !comp.Right(c) || len(c.Ins) < levels {
			t.Errorf("%s: the code is not valid", name)
			continue
		}
		if at := levels; name == "right" && d[at] != levels {
			t.Errorf("%s: depth %d", name, d[at])
		}
	}
}

// P1, P14.1, P14.4: statements that are nested as deep.
func TestDeepStatements(t *testing.T) {
	for name, f := range map[string]func(l []api.Stmt) api.Stmt{
		"then": func(l []api.Stmt) api.Stmt { return api.Stmt{Op: api.SIf, Xs: exprs("local4"), Then: l} },
		"else": func(l []api.Stmt) api.Stmt { return api.Stmt{Op: api.SIf, Xs: exprs("local4"), Else: l} },
		"both": func(l []api.Stmt) api.Stmt {
			return api.Stmt{Op: api.SIf, Xs: exprs("local4"), Then: l, Else: block("stop")}
		},
		"match": func(l []api.Stmt) api.Stmt {
			return api.Stmt{Op: api.SMatch, Xs: exprs("local2"), Arms: []api.Stmt{{Op: api.SArm, N: 0, M: 5, Then: l}, {Op: api.SArm, N: -1}}}
		},
	} {
		var l []api.Stmt
		for k := range levels {
			l = []api.Stmt{f(l)}
			if name == "match" && k > 0 {
				// The slot of an arm is bound in it.
				l[0].Arms[0], l[0].Arms[1] = api.Stmt{Op: api.SArm, N: 2, M: 5}, api.Stmt{Op: api.SArm, N: -1, Then: l[0].Arms[0].Then}
			}
		}
		p := withBody("stop")
		p.Actors[0].On[0].Body = l
		if c := comp.Compile(valid(t, p)); !comp.Right(c) || len(c.Ins) < 2*levels {
			t.Errorf("%s: the code is not valid", name)
		}
	}
	// Loops, each of which has a slot of its own.
	var l []api.Stmt
	for slot := most - 1; slot >= 5; slot-- {
		l = []api.Stmt{{Op: api.SFor, N: slot, Xs: exprs("local1"), Then: l}}
	}
	p := withBody("stop")
	p.Actors[0].On[0].Slots, p.Actors[0].On[0].Body = most, l
	c := comp.Compile(valid(t, p))
	d, ok := comp.Depths(c)
	if !ok || d[3+3*(most-5)] != 2*(most-5) {
		t.Error("the code of loops is not valid")
	}
}
