package comp_test

import (
	"fmt"
	"strings"
	"testing"

	"retroact/api"
	"retroact/comp"
)

// compilesLong checks the code of a program that is too large for the model, and whether it is valid.
func compilesLong(t *testing.T, p api.Prog, want bool, message ...any) api.Code {
	t.Helper()
	c := comp.Compile(valid(t, p))
	if len(c.Ins) == 0 || comp.Right(c) != want {
		t.Errorf("%s: %d instructions, valid: %v", fmt.Sprint(message...), len(c.Ins), !want)
	}
	return c
}

// around puts a number of equal expressions into one.
func around(op int, count int, x api.Expr) api.Expr {
	o := api.Expr{Op: op}
	for range count {
		o.Kids = append(o.Kids, x)
	}
	return o
}

// P14.4: lists of a program of 32768 elements, and longer ones, whose code is not valid.
func TestLongLists(t *testing.T) {
	for _, count := range []int{most - 1, most, most + 1} {
		want := count <= most
		c := compilesLong(t, withFun("[int]", around(api.XList, count, expr("int1"))), want, "a list of ", count)
		if made := c.Ins[count]; made.Op != comp.IMake || made.B != count {
			t.Errorf("a list of %d: %+v", count, made)
		}
		p := base()
		for k := range count {
			p.Types[1].Ctors[0].Fields = append(p.Types[1].Ctors[0].Fields, api.Field{Name: fmt.Sprint("a", k), Type: typ("int")})
			p.Actors[1].Vars = append(p.Actors[1].Vars, api.Var{Name: fmt.Sprint("a", k), Type: typ("int"), Init: expr("int1")})
		}
		compilesLong(t, p, want, count, " variables")
		vars := min(count, most)
		p.Actors[1].Vars = p.Actors[1].Vars[:vars]
		p.Funs[3].Body = api.Expr{Op: api.XGet, N: count - 1, Kids: []api.Expr{around(api.XRec, count, expr("int1"))}}
		p.Funs[3].Body.Kids[0].S = "E"
		p.Actors[1].On[0].Body = []api.Stmt{{Op: api.SSet, N: vars - 1, Xs: []api.Expr{{Op: api.XState, N: vars - 1}}}}
		compilesLong(t, p, want, count, " fields")
		p = base()
		for k := range count {
			p.Effects[1].Params = append(p.Effects[1].Params, api.Field{Name: fmt.Sprint("a", k), Type: typ("int")})
		}
		p.Actors[0].On[0].Body = []api.Stmt{{Op: api.SDo, S: "ask", T: "Ok", Xs: around(api.XList, count, expr("int1")).Kids}}
		compilesLong(t, p, want, count, " arguments of an effect")
	}
	// Slots and parameters cannot be more.
	p := base()
	for k := range most {
		p.Funs[3].Params = append(p.Funs[3].Params, api.Field{Name: fmt.Sprint("a", k), Type: typ("int")})
		p.Actors[1].Params = append(p.Actors[1].Params, api.Field{Name: fmt.Sprint("b", k), Type: typ("int")})
	}
	p.Actors[1].Params = p.Actors[1].Params[3:]
	args := around(api.XCall, most, expr("int2"))
	args.N = 3
	p.Funs[3].Slots, p.Funs[3].Body, p.Funs[0].Body = most, expr("local32767"), args
	p.Actors[1].Slots = most
	p.Actors[0].On[0].Body = []api.Stmt{{Op: api.SSpawn, N: -1, M: 1, S: "W", Xs: around(api.XList, most, expr("int1")).Kids}}
	p.Funs[1].Slots, p.Funs[1].Body = most, expr("let32767(int5 add(local32767 match(ctor0'O' arm0/32768(int1))))")
	compilesLong(t, p, true, "parameters and slots")
}

// P14.4: variants with 4096 constructors, and larger ones, whose last constructors are no values.
func TestManyConstructors(t *testing.T) {
	for _, count := range []int{4096, 5000} {
		p := base()
		z := api.Decl{Name: "Z"}
		for k := range count {
			z.Ctors = append(z.Ctors, api.Ctor{Name: fmt.Sprint("Z", k)})
		}
		p.Types = append(p.Types, z)
		p.Funs[0].Body = expr(fmt.Sprintf("match(ctor%d'Z' arm%d(int1) arm%d(int2) arm-1(int3))", count-1, count-2, count-1))
		c := compilesLong(t, p, count == 4096, count, " constructors")
		if want := modelCompile(p); printed(c) != printed(want) {
			t.Errorf("%d constructors: %s; want %s", count, listing(c), listing(want))
		}
	}
	// The code of arms for constructors that are no values is valid, up to the index 32768.
	for _, ctor := range []int{4097, most, most + 1} {
		p := base()
		for k := range most + 2 {
			p.Types[3].Ctors = append(p.Types[3].Ctors, api.Ctor{Name: fmt.Sprint("Z", k)})
		}
		p.Funs[0].Body = expr(fmt.Sprintf("match(ctor0'O' arm%d(int1) arm-1(int3))", ctor))
		compilesLong(t, p, ctor <= most, "constructor ", ctor)
	}
}

// P14.4: names of 4096 bytes, and longer ones, which are no texts.
func TestLongNames(t *testing.T) {
	for _, size := range []int{4096, 4097} {
		name := strings.Repeat("N", size)
		p := base()
		p.Actors[0].On[1].Msg = name
		p.Actors[0].On[0].Body = []api.Stmt{{Op: api.SDo, S: "ask", T: name}, {Op: api.SSend, S: name, Xs: exprs("self bool1")}}
		c := compilesLong(t, p, size == 4096, "a name of ", size)
		if want := modelCompile(p); printed(c) != printed(want) {
			t.Errorf("a name of %d: %s; want %s", size, listing(c), listing(want))
		}
		// Other names may be longer.
		p = base()
		long := strings.Repeat("N", 5000)
		p.Types[2].Name, p.Actors[0].On[2].Msg, p.Effects[1].Name = long, "Q"+long, "q"+long
		p.Actors[0].On[0].Body = []api.Stmt{{Op: api.SDo, S: "q" + long, T: "Ok"}, {Op: api.SSend, S: "Q" + long, Xs: exprs("self int1")}}
		p.Funs[3].Body = api.Expr{Op: api.XMatch, Kids: []api.Expr{{Op: api.XCtor, S: long, N: 2}, expr("arm-1(int1)")}}
		compilesLong(t, p, true, "long names")
	}
}

// P14.1: many constants and names.
func TestManyConstants(t *testing.T) {
	const count = 30000
	p := base()
	for k := range count {
		p.Actors[1].On = append(p.Actors[1].On, api.Handler{Msg: fmt.Sprint("M", k)})
		p.Actors[0].On[0].Body = append(p.Actors[0].On[0].Body, api.Stmt{Op: api.SSet, Xs: []api.Expr{{Op: api.XInt, N: k}}}, api.Stmt{Op: api.SSet, N: 1, Xs: []api.Expr{{Op: api.XText, S: fmt.Sprint(k)}}})
	}
	p.Actors[0].Vars = []api.Var{{Name: "a", Type: typ("int"), Init: expr("int0")}, {Name: "b", Type: typ("text"), Init: expr("text'0'")}}
	for k := range count {
		p.Actors[1].On[0].Body = append(p.Actors[1].On[0].Body, api.Stmt{Op: api.SSend, S: fmt.Sprint("M", count-1-k), Xs: exprs("self")})
	}
	p.Actors[1].On[1].Body = p.Actors[1].On[0].Body
	c := compilesLong(t, p, true, "many constants")
	if len(c.Consts) != 2*count || len(c.Names) != count {
		t.Fatalf("%d constants, %d names", len(c.Consts), len(c.Names))
	}
	for k := range count {
		if c.Consts[2*k].N != k || c.Consts[2*k+1].S != fmt.Sprint(k) || c.Names[k] != fmt.Sprint("M", count-1-k) {
			t.Fatalf("constants %+v, %+v, name %s", c.Consts[2*k], c.Consts[2*k+1], c.Names[k])
		}
	}
}
