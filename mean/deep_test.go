package mean_test

import (
	"testing"

	"retroact/api"
	"retroact/mean"
	"retroact/value"
)

// depth is a little less than the levels of nesting that the document allows.
const depth = 65000

// around are expressions around another one that has the type int, as deep as it is.
func around() map[string]func(x api.Expr) api.Expr {
	with := func(op int, kids ...api.Expr) api.Expr { return api.Expr{Op: op, Kids: kids} }
	one, yes := expr("int1"), expr("bool1")
	return map[string]func(x api.Expr) api.Expr{
		"neg": func(x api.Expr) api.Expr { return with(api.XNeg, x) }, "add": func(x api.Expr) api.Expr { return with(api.XMul, one, x) }, "if": func(x api.Expr) api.Expr { return with(api.XIf, yes, x, one) },
		"let": func(x api.Expr) api.Expr { return api.Expr{Op: api.XLet, N: 1, Kids: []api.Expr{x, expr("local1")}} }, "match": func(x api.Expr) api.Expr {
			return with(api.XMatch, expr("ctor2'V'"), expr("arm0/1(int0)"), api.Expr{Op: api.XArm, N: -1, Kids: []api.Expr{x}})
		},
		"at": func(x api.Expr) api.Expr {
			return api.Expr{Op: api.XPrim, N: api.PAt, Kids: []api.Expr{with(api.XList, x), expr("int0")}}
		},
	}
}

// nested puts an expression into another one many times.
func nested(x api.Expr, times int, f func(x api.Expr) api.Expr) api.Expr {
	for range times {
		x = f(x)
	}
	return x
}

// P1, P13.3: expressions that are nested as deep as the document allows, in a function that is called once, and in one in which the 100 nested calls are as deep again.
func TestDeepExpressions(t *testing.T) {
	for name, f := range around() {
		p, fun := withFun("int", "int1", "n", "int")
		p.Funs[fun].Slots, p.Funs[fun].Body = 2, nested(expr("local0"), depth, f)
		if v, fault, _ := mean.Eval(valid(t, p), fun, plains("5")); fault != 0 || v.N != 5 {
			t.Errorf("%s: %s, fault %d", name, printed(v), fault)
		}
		p.Funs[fun].Body = nested(expr("div(int1 int0)"), depth, f)
		if _, fault, _ := mean.Eval(valid(t, p), fun, plains("5")); fault != api.FZero {
			t.Errorf("%s: fault %d", name, fault)
		}
	}
	p, fun := withFun("int", "int1", "n", "int")
	recursive := expr("if(le(local0 int0) int7 call5(minus(local0 int1)))")
	recursive.Kids[2] = nested(recursive.Kids[2], depth, around()["neg"])
	p.Funs[fun].Body = recursive
	for n, want := range map[int]int{99: 0, 100: api.FDepth} {
		if v, fault, _ := mean.Eval(valid(t, p), fun, []api.Value{integer(n)}); fault != want || fault == 0 && v.N != 7 {
			t.Errorf("%d calls: %s, fault %d", n, printed(v), fault)
		}
	}
}

// P1, P13.2: statements that are nested as deep.
func TestDeepStatements(t *testing.T) {
	for name, f := range map[string]func(l []api.Stmt) api.Stmt{
		"if":   func(l []api.Stmt) api.Stmt { return api.Stmt{Op: api.SIf, Xs: exprs("bool1"), Then: l} },
		"else": func(l []api.Stmt) api.Stmt { return api.Stmt{Op: api.SIf, Xs: exprs("bool0"), Else: l} },
		"match": func(l []api.Stmt) api.Stmt {
			return api.Stmt{Op: api.SMatch, Xs: exprs("ctor2'V'"), Arms: []api.Stmt{{Op: api.SArm, N: -1, Then: l}}}
		},
	} {
		l := block("set0(add(local0 int1)) stop")
		for range depth {
			l = []api.Stmt{f(l), block("set0(int0)")[0]}
		}
		p := withBody("stop")
		p.Actors[0].On[2].Body = l
		want := gave(6, 0)
		want.Stop = true
		gives(t, valid(t, p), toMain(5), want, name)
	}
	// Loops, each of which has a slot of its own.
	l := block("set0(add(local0 int1))")
	for k := range 9000 {
		l = []api.Stmt{{Op: api.SFor, N: k + 1, Xs: exprs("list(int1)"), Then: l}}
	}
	p := withBody("stop")
	p.Actors[0].On[2].Body, p.Actors[0].On[2].Slots = l, 9001
	gives(t, valid(t, p), toMain(5), gave(6, 9000), "loops")
}

// P1, P13.1 to P13.4: values that are nested as deep as they may be, and deeper.
func TestDeepValues(t *testing.T) {
	form, v := "int", integer(3)
	typed := typ(form)
	for range api.MaxValue - 1 {
		typed, v = api.Type{Kind: api.TyList, Args: []api.Type{typed}}, list(v)
	}
	p := base()
	p.Funs = append(p.Funs, api.Fun{Params: []api.Field{{Name: "a", Type: typed}}, Result: typed, Slots: 1, Body: expr("local0")})
	p.Actors[0].Vars[0] = api.Var{Name: "n", Type: typed, Init: expr("list")}
	p.Actors[0].On = append(p.Actors[0].On, api.Handler{Msg: "Go", Params: []api.Field{{Name: "a", Type: typed}}, Slots: 1, Body: block("set0(local0)")})
	fun := len(p.Funs) - 1
	if got, fault, _ := mean.Eval(valid(t, p), fun, []api.Value{v}); fault != 0 || !value.Equal(got, v) {
		t.Error("a deep value is not returned:", fault)
	}
	c := api.Call{Actor: "Main", Path: "0", Vars: []api.Value{list()}, Msg: "Go", Args: []api.Value{v}}
	if r := mean.Run(p, c); !mean.Same(r, api.Result{Vars: []api.Value{v}}) {
		t.Error("a deep value is not stored:", r.Fault)
	}
	// One level more is not valid any more, and still deeper values are no reason to crash.
	for _, levels := range []int{1, depth - api.MaxValue} {
		for range levels {
			v = list(v)
		}
		c.Args = []api.Value{v}
		if _, fault, why := mean.Eval(p, fun, []api.Value{v}); fault != api.FFail || why != "call" || mean.Fits(p, c) || !mean.Same(mean.Run(p, c), notCall()) {
			t.Error("a value that is too deep is accepted")
		}
		if a, b := (api.Result{Vars: []api.Value{v}}), (api.Result{Vars: []api.Value{v, v}}); !mean.Same(a, a) || mean.Same(a, b) {
			t.Error("deep results are not compared")
		}
	}
}
