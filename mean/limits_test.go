package mean_test

import (
	"strings"
	"testing"

	"retroact/api"
	"retroact/mean"
)

// burner is a program whose handlers use fuel as their arguments tell.
const burner = `
variant V { A(int), C }
fun id(n: int): int = n
fun down(n: int): int = if n <= 0 then 0 else down(n - 1)
fun spin(n: int): int = (fun(m: int): int = if m <= 0 then 0 else spin(m - 1))(n)
fun once(n: int): int = spin(n)
fun over(): int = 9007199254740992 + 1
actor Main() {
  state a: int = 7
  on Call(l: [int], m: [int], n: [int], k: int) { for x in l { for y in m { a = a + 1 } } for x in n { a = a + 1 } a = down(k) }
  on Apply(l: [int], m: [int], n: [int]) { let g = id for x in l { for y in m { a = a + 1 } } for x in n { a = a + 1 } a = g(a) }
  on For(l: [int], m: [int], n: [int]) { for x in l { for y in m { a = a + 1 } } for x in n { a = a + 1 } }
  on Fault(l: [int], m: [int], n: [int], k: int) {
    let g = id
    for x in l { for y in m { a = a + 1 } } for x in n { a = a + 1 }
    if k == 0 { a = id(1 / 0) } if k == 1 { a = g(1 / 0) } if k == 2 { for x in [1 / 0] { } } if k == 3 { for x in [1] { a = 1 / 0 } }
    if k == 4 { for x in slice([1], 0, 0) { a = 1 / 0 } } if k == 5 { a = over() } if k == 6 { a = (fun(): int = 1 / 0)() }
    if k == 7 { let h = [g] a = (at(h, 1))(1) } if k == 8 { fail "done" } if k == 9 { stop }
  }
  on Once(n: int) { a = once(n) }
  on Spin(n: int) { a = spin(n) }
  on Both(n: int) { a = down(n) + down(n) }
}
actor Two(n: int, m: int) { state a: int = down(n) state b: int = id(a0(m)) state c: int = down(n) }
fun a0(n: int): int = down(n)`

// burn returns a call of Main in which the loops use |l| (1 + |m|) + |n| units.
func burn(msg string, l, m, n int, more ...int) api.Call {
	args := []api.Value{zeros(l), zeros(m), zeros(n)}
	for _, k := range more {
		args = append(args, integer(k))
	}
	return api.Call{Actor: "Main", Path: "0", Vars: plains("7"), Msg: msg, Args: args}
}

// gave is a result with an integer as the only state variable.
func gave(n, used int) api.Result { return api.Result{Vars: []api.Value{integer(n)}, Used: used} }

// P13.2: the 10000th unit of fuel can be used by a loop, a call and an application, and the next one cannot.
func TestFuel(t *testing.T) {
	p := compiled(t, burner)
	for _, c := range []struct {
		c    api.Call
		want api.Result
	}{
		{burn("For", 0, 0, 0), gave(7, 0)}, {burn("For", 0, 9, 1), gave(8, 1)}, {burn("For", 3, 0, 0), gave(7, 3)}, {burn("For", 3, 2, 5), gave(18, 14)},
		{burn("For", 100, 98, 99), gave(9906, 9999)}, {burn("For", 100, 98, 100), gave(9907, 10000)}, {burn("For", 100, 98, 101), fails(api.FFuel, 10000)}, {burn("For", 100, 99, 0), gave(9907, 10000)}, {burn("For", 100, 99, 1), fails(api.FFuel, 10000)}, {burn("For", 100, 100, 0), fails(api.FFuel, 10000)}, {burn("For", 99, 100, 1), gave(9908, 10000)}, {burn("For", 101, 98, 1), gave(9906, 10000)}, {burn("For", 101, 98, 2), fails(api.FFuel, 10000)},
		{burn("For", 4096, 0, 4096), gave(4103, 8192)}, {burn("For", 4096, 2, 0), fails(api.FFuel, 10000)}, {burn("For", 4096, 4096, 4096), fails(api.FFuel, 10000)},
		{burn("Call", 0, 0, 0, 0), gave(0, 1)}, {burn("Call", 100, 98, 99, 0), gave(0, 10000)}, {burn("Call", 100, 98, 100, 0), fails(api.FFuel, 10000)}, {burn("Call", 100, 98, 98, 1), gave(0, 10000)}, {burn("Call", 100, 98, 98, 2), fails(api.FFuel, 10000)}, {burn("Call", 100, 98, 98, -5), gave(0, 9999)},
		{burn("Apply", 0, 0, 0), gave(7, 1)}, {burn("Apply", 100, 98, 99), gave(9906, 10000)}, {burn("Apply", 100, 98, 100), fails(api.FFuel, 10000)}, {burn("Apply", 100, 99, 0), fails(api.FFuel, 10000)},
	} {
		gives(t, p, c.c, c.want, c.c.Msg, len(c.c.Args[0].L), len(c.c.Args[1].L), len(c.c.Args[2].L))
	}
}

// P13.2: the 100th of nested calls and applications is evaluated, and the next one is not, but has used its fuel.
func TestDepth(t *testing.T) {
	p := compiled(t, burner)
	one := func(msg string, n int) api.Call {
		return api.Call{Actor: "Main", Path: "0", Vars: plains("7"), Msg: msg, Args: []api.Value{integer(n)}}
	}
	for _, c := range []struct {
		c    api.Call
		want api.Result
	}{
		{burn("Call", 0, 0, 0, 98), gave(0, 99)}, {burn("Call", 0, 0, 0, 99), gave(0, 100)}, {burn("Call", 0, 0, 0, 100), fails(api.FDepth, 101)}, {burn("Call", 0, 0, 0, 101), fails(api.FDepth, 101)}, {burn("Call", 0, 0, 0, api.MaxNum), fails(api.FDepth, 101)},
		{one("Spin", 0), gave(0, 2)}, {one("Spin", 48), gave(0, 98)}, {one("Spin", 49), gave(0, 100)}, {one("Spin", 50), fails(api.FDepth, 101)},
		{one("Once", 0), gave(0, 3)}, {one("Once", 48), gave(0, 99)}, {one("Once", 49), fails(api.FDepth, 101)},
		{one("Both", 99), gave(0, 200)}, {one("Both", 100), fails(api.FDepth, 101)},
		// Calls within loops are no deeper.
		{burn("Call", 10, 10, 10, 99), gave(0, 220)}, {burn("Call", 10, 10, 10, 100), fails(api.FDepth, 221)},
	} {
		gives(t, p, c.c, c.want, c.c.Msg, shown(c.c.Args))
	}
}

// P13.2: where both fuel and depth are at an end, the fault is FFuel.
func TestFuelBeforeDepth(t *testing.T) {
	p := compiled(t, burner)
	for _, c := range []struct {
		n    int
		k    int
		want api.Result
	}{
		{99, 99, gave(0, 9999)}, {99, 100, fails(api.FDepth, 10000)}, {100, 99, gave(0, 10000)}, {100, 100, fails(api.FFuel, 10000)}, {100, 101, fails(api.FFuel, 10000)}, {98, 100, fails(api.FDepth, 9999)}, {101, 100, fails(api.FFuel, 10000)}, {101, 99, fails(api.FFuel, 10000)},
	} {
		gives(t, p, burn("Call", 100, 97, c.n, c.k), c.want, c.n, " ", c.k)
	}
}

// P13.2: a call, an application and a loop use fuel after their Kids, and a loop before its body; Used counts up to the fault.
func TestOrderOfFuel(t *testing.T) {
	p := compiled(t, burner)
	for k, c := range []struct{ early, late api.Result }{
		{fails(api.FZero, 0), fails(api.FZero, 10000)}, {fails(api.FZero, 0), fails(api.FZero, 10000)}, {fails(api.FZero, 0), fails(api.FZero, 10000)}, {fails(api.FZero, 1), fails(api.FFuel, 10000)},
		{gave(7, 0), gave(9907, 10000)}, {fails(api.FOver, 1), fails(api.FFuel, 10000)}, {fails(api.FZero, 1), fails(api.FFuel, 10000)}, {fails(api.FIndex, 0), fails(api.FIndex, 10000)},
		{api.Result{Fault: api.FFail, Why: "done"}, api.Result{Fault: api.FFail, Why: "done", Used: 10000}}, {api.Result{Vars: plains("7"), Stop: true}, api.Result{Vars: plains("9907"), Stop: true, Used: 10000}},
	} {
		gives(t, p, burn("Fault", 0, 0, 0, k), c.early, k, " early")
		gives(t, p, burn("Fault", 100, 98, 100, k), c.late, k, " late")
	}
}

// P13.2: the initializers of an actor type share their fuel, and each begins at depth 0.
func TestFuelOfInitializers(t *testing.T) {
	p := compiled(t, burner)
	for _, c := range []struct {
		n, m int
		want api.Result
	}{
		{0, 0, api.Result{Vars: plains("0", "0", "0"), Used: 5}}, {99, 98, api.Result{Vars: plains("0", "0", "0"), Used: 301}}, {99, 99, fails(api.FDepth, 201)}, {100, 0, fails(api.FDepth, 101)},
	} {
		gives(t, p, api.Call{Actor: "Two", Path: "0.1", Args: []api.Value{integer(c.n), integer(c.m)}}, c.want, c.n, " ", c.m)
	}
	// Two initializers that use many units each.
	for _, c := range []struct {
		first, second int
		want          api.Result
	}{
		{5000, 5000, api.Result{Vars: []api.Value{integer(5000), integer(5000)}, Used: 10000}}, {5000, 5001, fails(api.FFuel, 10000)}, {10000, 0, api.Result{Vars: []api.Value{integer(10000), integer(0)}, Used: 10000}}, {10000, 1, fails(api.FFuel, 10000)}, {10001, 0, fails(api.FFuel, 10000)},
	} {
		p := base()
		p.Funs = append(p.Funs, api.Fun{Name: "zero", Result: typ("int"), Body: expr("int0")})
		p.Actors[1].Vars = []api.Var{{Name: "a", Type: typ("int"), Init: calls(len(p.Funs)-1, c.first)}, {Name: "b", Type: typ("int"), Init: calls(len(p.Funs)-1, c.second)}}
		gives(t, valid(t, p), api.Call{Actor: "W", Path: "0.1", Args: plains("1", `""`)}, c.want, c.first, " ", c.second)
	}
}

// calls returns an expression that calls a function of no parameters a number of times, which is its value.
func calls(fun, count int) api.Expr {
	sum := expr("int0")
	for count > 0 {
		size := min(count, api.MaxList)
		l := api.Expr{Op: api.XList}
		for range size {
			l.Kids = append(l.Kids, api.Expr{Op: api.XCall, N: fun})
		}
		if size > 0 {
			sum = api.Expr{Op: api.XAdd, Kids: []api.Expr{sum, {Op: api.XPrim, N: api.PLen, Kids: []api.Expr{l}}}}
		}
		count -= size
	}
	return sum
}

// P13.3: Eval uses one unit of fuel, and is one of the nested calls.
func TestLimitsOfEval(t *testing.T) {
	p := compiled(t, burner)
	for _, c := range []struct{ fun, n, fault int }{
		{1, 0, 0}, {1, 98, 0}, {1, 99, 0}, {1, 100, api.FDepth}, {1, 5000, api.FDepth}, {2, 49, 0}, {2, 50, api.FDepth}, {3, 48, 0}, {3, 49, api.FDepth}, {0, 5, 0},
	} {
		if v, fault, why := mean.Eval(p, c.fun, []api.Value{integer(c.n)}); fault != c.fault || why != "" || fault != 0 && printed(v) != printed(api.Value{}) {
			t.Errorf("function %d of %d: %s, fault %d", c.fun, c.n, printed(v), fault)
		}
	}
	for count, want := range map[int]int{0: 0, 1: 0, 9998: 0, 9999: 0, 10000: api.FFuel, 10001: api.FFuel, 12000: api.FFuel} {
		p := base()
		p.Funs = append(p.Funs, api.Fun{Name: "zero", Result: typ("int"), Body: expr("int0")}, api.Fun{Result: typ("int"), Body: calls(len(p.Funs), count)})
		for range 2 {
			v, fault, why := mean.Eval(valid(t, p), len(p.Funs)-1, nil)
			if fault != want || why != "" || fault == 0 && (v.Kind != api.VInt || v.N != count) || fault != 0 && printed(v) != printed(api.Value{}) {
				t.Errorf("%d calls: %s, fault %d", count, printed(v), fault)
			}
		}
	}
}

// P13.2, P13.3: calls in the arguments of calls are not nested in them.
func TestDepthOfArguments(t *testing.T) {
	x := expr("int1")
	for range 5000 {
		x = api.Expr{Op: api.XCall, Kids: []api.Expr{x, expr("text")}}
	}
	p, fun := withFun("int", "int1")
	p.Funs[fun].Body = x
	if v, fault, _ := mean.Eval(valid(t, p), fun, nil); fault != 0 || v.N != 1 {
		t.Error(v, fault)
	}
	p = base()
	p.Actors[0].Vars[0].Init = x
	gives(t, valid(t, p), api.Call{Actor: "Main", Path: "0"}, gave(1, 5000), "calls in arguments")
}

// sized is an expression of some parameters, with their values, and whether its value is too large.
type sized struct {
	form, x string
	params  []string
	args    []api.Value
	large   bool
}

// sizes are expressions whose values are at the limits, or one beyond them.
func sizes() []sized {
	x := func(count int) api.Value { return text(strings.Repeat("x", count)) }
	texts, lists, trees := []string{"a", "text", "b", "text"}, []string{"a", "[int]", "b", "[int]"}, []string{"a", "[[int]]", "b", "[[int]]"}
	one := []string{"a", "[[int]]"}
	forest := func(count int) api.Value { return nodes(count) }
	args := func(l ...api.Value) []api.Value { return l }
	return []sized{
		{"text", "cat(local0 local1)", texts, args(x(4095), x(1)), false}, {"text", "cat(local0 local1)", texts, args(x(4096), x(0)), false}, {"text", "cat(local0 local1)", texts, args(x(0), x(4096)), false}, {"text", "cat(local0 local1)", texts, args(x(2048), x(2048)), false},
		{"text", "cat(local0 local1)", texts, args(x(4096), x(1)), true}, {"text", "cat(local0 local1)", texts, args(x(1), x(4096)), true}, {"text", "cat(local0 local1)", texts, args(x(2048), x(2049)), true}, {"text", "cat(local0 local1)", texts, args(x(4096), x(4096)), true},
		{"[int]", "cat(local0 local1)", lists, args(zeros(4095), zeros(1)), false}, {"[int]", "cat(local0 local1)", lists, args(zeros(4096), zeros(0)), false}, {"[int]", "cat(local0 local1)", lists, args(zeros(0), zeros(4096)), false}, {"[int]", "cat(local0 local1)", lists, args(zeros(2000), zeros(2096)), false},
		{"[int]", "cat(local0 local1)", lists, args(zeros(4096), zeros(1)), true}, {"[int]", "cat(local0 local1)", lists, args(zeros(1), zeros(4096)), true}, {"[int]", "cat(local0 local1)", lists, args(zeros(2000), zeros(2097)), true}, {"[int]", "cat(local0 local1)", lists, args(zeros(4096), zeros(4096)), true},
		{"[[int]]", "cat(local0 local1)", trees, args(forest(16384), forest(1)), false}, {"[[int]]", "cat(local0 local1)", trees, args(forest(8000), forest(8385)), false}, {"[[int]]", "cat(local0 local1)", trees, args(forest(8000), forest(8386)), true}, {"[[int]]", "cat(local0 local1)", trees, args(forest(16384), forest(2)), true}, {"[[int]]", "cat(local0 local1)", trees, args(forest(2), forest(16384)), true},
		{"[[[int]]]", "list(local0)", one, args(forest(16383)), false}, {"[[[int]]]", "list(local0)", one, args(forest(16384)), true}, {"[[[int]]]", "list(local0 local1)", trees, args(forest(16382), forest(1)), false}, {"[[[int]]]", "list(local0 local1)", trees, args(forest(16382), forest(2)), true}, {"[[[int]]]", "list(local0 local0)", one, args(forest(8191)), false}, {"[[[int]]]", "list(local0 local0)", one, args(forest(8192)), true},
		{"T", "rec'T'(local0 local1)", trees, args(forest(8000), forest(8383)), false}, {"T", "rec'T'(local0 local1)", trees, args(forest(8000), forest(8384)), true}, {"T", "rec'T'(local0 list)", one, args(forest(16382)), false}, {"T", "rec'T'(local0 list)", one, args(forest(16383)), true},
		{"U", "ctor1'U'(local0)", one, args(forest(16383)), false}, {"U", "ctor1'U'(local0)", one, args(forest(16384)), true},
		{"fun(): [[int]]", "fun4(local0)", one, args(forest(16383)), false}, {"fun(): [[int]]", "fun4(local0)", one, args(forest(16384)), true}, {"[[int]]", "apply(fun4(local0))", one, args(forest(16383)), false}, {"[[int]]", "apply(fun4(local0))", one, args(forest(16384)), true}, {"int", "let5(fun4(local0) int1)", one, args(forest(16384)), true},
		{"T", "with0(rec'T'(list local1) local0)", trees, args(forest(8000), forest(8383)), false}, {"T", "with0(rec'T'(list local1) local0)", trees, args(forest(8000), forest(8384)), true}, {"T", "with1(rec'T'(local1 list) local0)", trees, args(forest(16000), forest(383)), false}, {"T", "with1(rec'T'(local1 list) local0)", trees, args(forest(16000), forest(384)), true}, {"T", "with0(rec'T'(local1 list) local0)", trees, args(forest(16382), forest(16382)), false},
		{"[[[int]]]", "prim3(list(list list local1) int0 local0)", trees, args(forest(8000), forest(8382)), false}, {"[[[int]]]", "prim3(list(list list local1) int0 local0)", trees, args(forest(8000), forest(8383)), true}, {"[[[int]]]", "prim3(list(list list local1) int2 local0)", trees, args(forest(16381), forest(16381)), false}, {"[[[int]]]", "prim3(list(list list local1) int2 local0)", trees, args(forest(16382), forest(5)), true},
		// A put beyond the length has the fault FIndex, and one in place of an element does not make the list longer.
		{"[int]", "prim3(local0 int4095 int1)", lists, args(zeros(4096), zeros(0)), false},
		// What only hands a value on has no limit of its own.
		{"[[int]]", "local0", one, args(forest(16384)), false}, {"[[int]]", "let5(local0 if(bool1 local5 local0))", one, args(forest(16384)), false}, {"[[int]]", "call4(local0)", one, args(forest(16384)), false}, {"[[int]]", "prim4(local0 int0 prim1(local0))", one, args(forest(16384)), false}, {"[int]", "prim2(local0 int1)", one, args(forest(16384)), false},
		{"text", "local0", texts, args(x(4096), x(0)), false}, {"text", "prim6(local0 int0 int4096)", texts, args(x(4096), x(0)), false}, {"int", "prim5(local0)", texts, args(x(4096), x(0)), false}, {"int", "prim1(local0)", lists, args(zeros(4096), zeros(0)), false}, {"text", "text'" + strings.Repeat("x", 4096) + "'", texts, args(x(0), x(0)), false},
		{"bool", "eq(local0 local0)", one, args(forest(16384)), false},
	}
}

// P13.2, P13.3: values at each limit of size, and one beyond it.
func TestSizes(t *testing.T) {
	for _, s := range sizes() {
		p, fun := withFun(s.form, s.x, s.params...)
		p.Types = append(p.Types, api.Decl{Name: "T", Record: true, Ctors: []api.Ctor{{Name: "T", Fields: fields("l", "[[int]]", "m", "[[int]]")}}}, api.Decl{Name: "U", Ctors: []api.Ctor{{Name: "None"}, {Name: "Some", Fields: fields("", "[[int]]")}}})
		want := api.FNone
		if s.large {
			want = api.FSize
		}
		v, fault, why := mean.Eval(valid(t, p), fun, s.args)
		if fault != want || why != "" {
			t.Errorf("%.100s of %s: fault %d, want %d", s.x, shortened(s.args), fault, want)
		}
		if w, _, _ := modelEval(p, fun, s.args); printed(w) != printed(v) {
			t.Errorf("%.100s of %s: %s, not what the model gives", s.x, shortened(s.args), shortened(v))
		}
	}
}

// P13.2, P13.3: the numbers of Kids of lists, records, constructors and closures at their limits.
func TestSizesOfKids(t *testing.T) {
	for _, c := range []struct {
		op, count int
		fault     int
	}{
		{api.XList, 4095, 0}, {api.XList, 4096, 0}, {api.XList, 4097, api.FSize}, {api.XList, 20000, api.FSize}, {api.XRec, 4097, 0}, {api.XRec, 16383, 0}, {api.XRec, 16384, api.FSize}, {api.XCtor, 4097, 0}, {api.XCtor, 16383, 0}, {api.XCtor, 16384, api.FSize}, {api.XFun, 4097, 0}, {api.XFun, 16383, 0}, {api.XFun, 16384, api.FSize},
	} {
		p := base()
		var fs []api.Field
		for k := range c.count {
			fs = append(fs, api.Field{Name: "f" + strings.Repeat("x", k%200) + string(rune('a'+k/200%26)) + string(rune('a'+k/5200)), Type: typ("unit")})
		}
		unnamed := make([]api.Field, c.count)
		for k := range unnamed {
			unnamed[k].Type = typ("unit")
		}
		form := map[int]string{api.XList: "[unit]", api.XRec: "R", api.XCtor: "S", api.XFun: "fun(): unit"}[c.op]
		x := api.Expr{Op: c.op, Kids: make([]api.Expr, c.count)}
		for k := range x.Kids {
			x.Kids[k] = expr("unit")
		}
		switch c.op {
		case api.XRec:
			p.Types, x.S = append(p.Types, api.Decl{Name: "R", Record: true, Ctors: []api.Ctor{{Name: "R", Fields: fs}}}), "R"
		case api.XCtor:
			p.Types, x.S = append(p.Types, api.Decl{Name: "S", Ctors: []api.Ctor{{Name: "S", Fields: unnamed}}}), "S"
		case api.XFun:
			p.Funs, x.N = append(p.Funs, api.Fun{Params: fs, Result: typ("unit"), Slots: c.count, Body: expr("unit")}), len(p.Funs)
		}
		p.Funs = append(p.Funs, api.Fun{Result: typ(form), Body: x})
		v, fault, _ := mean.Eval(valid(t, p), len(p.Funs)-1, nil)
		if fault != c.fault || fault == 0 && len(v.L) != c.count {
			t.Errorf("operator %d with %d Kids: fault %d, %d elements", c.op, c.count, fault, len(v.L))
		}
	}
}
