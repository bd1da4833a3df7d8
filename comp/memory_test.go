package comp_test

import (
	"fmt"
	"slices"
	"testing"

	"retroact/api"
	"retroact/comp"
)

// P14.3: no function changes its arguments, or reads or changes what lies beyond the length of their slices.
func TestUnchanged(t *testing.T) {
	for _, p := range []api.Prog{several(), {Funs: several().Funs}} {
		wide, sameProgram := withRoom(p)
		before := printed(wide)
		c := comp.Compile(p)
		if got := comp.Compile(wide); printed(got) != printed(c) || printed(wide) != before || !sameProgram() {
			t.Error("Compile changes its argument, or reads what is beyond the length of slices")
		}
		c.Consts = append(c.Consts, constants()...)
		roomy, sameCode := withRoom(c)
		before = printed(roomy)
		want, ok := comp.Depths(c)
		if got, same := comp.Depths(roomy); same != ok || !slices.Equal(got, want) || comp.Right(roomy) != ok || printed(roomy) != before || !sameCode() {
			t.Error("Depths or Right changes its argument, or reads what is beyond the length of slices")
		}
		if ok != (len(p.Actors) > 0) {
			t.Error(ok)
		}
	}
	// Code that is not valid is not changed either.
	c := within("handler", "end self end")
	c.Ins[len(c.Ins)-1].Op = 31
	before := printed(c)
	if comp.Right(c) || printed(c) != before {
		t.Error("Right changes its argument")
	}
}

// P14.3, P3: results share no memory with the arguments, with each other or within themselves, and do not change with any of them.
func TestFresh(t *testing.T) {
	for _, source := range []api.Prog{several(), withFun("int", expr("match(local4 arm0/7(local7) arm-1(prim1(list(int1 int1 int2))))"))} {
		p := copied(source)
		first, second := comp.Compile(p), comp.Compile(p)
		unshared(t, p, first, second)
		before := printed(second)
		spoil(&first)
		if third := comp.Compile(p); printed(third) != before || printed(second) != before {
			t.Error("a change of code reaches another one")
		}
		spoil(&p)
		if printed(second) != before {
			t.Error("a change of the program reaches its code")
		}
		a, _ := comp.Depths(second)
		b, _ := comp.Depths(second)
		unshared(t, second, a, b)
		depths := printed(b)
		spoil(&a)
		if c, _ := comp.Depths(second); printed(c) != depths || printed(b) != depths || printed(second) != before {
			t.Error("a change of depths reaches others, or the code")
		}
		spoil(&second)
		if printed(b) != depths {
			t.Error("a change of code reaches its depths")
		}
	}
}

// P4: the results do not depend on earlier calls, or on others at the same time.
func TestSameResults(t *testing.T) {
	var programs []api.Prog
	var want []string
	parallel(1, func(m maker, _ int) {
		for range 8 {
			programs = append(programs, m.program())
		}
	})
	results := func(p api.Prog) string {
		c := comp.Compile(p)
		d, ok := comp.Depths(c)
		return fmt.Sprint(c, d, ok)
	}
	for _, p := range programs {
		want = append(want, results(p))
	}
	parallel(80, func(_ maker, k int) {
		if results(programs[k*3%8]) != want[k*3%8] {
			t.Errorf("program %d has other results", k*3%8)
		}
	})
}

// plain returns the instructions of a function with the constants and distances in the place of indices and targets.
func plain(c api.Code, fun int) string {
	end := c.Ons[0].At
	if fun+1 < len(c.Funs) {
		end = c.Funs[fun+1].At
	}
	s := fmt.Sprint(c.Funs[fun].Params, " ", c.Funs[fun].Slots)
	for at := c.Funs[fun].At; at < end; at++ {
		i := c.Ins[at]
		switch i.Op {
		case comp.IConst, comp.IMake:
			s += fmt.Sprint(" ", i.Op, " ", constant(c.Consts[i.A]), " ", i.B)
		case comp.IJump, comp.IFalse, comp.ITrue:
			s += fmt.Sprint(" ", i.Op, " ", i.A-at, " ", i.B)
		case comp.ICase:
			s += fmt.Sprint(" ", i.Op, " ", i.A, " ", i.B-at)
		default:
			s += fmt.Sprint(" ", i)
		}
	}
	return s
}

// P14.4: equal functions have equal code, wherever they are.
func TestEqualFunctions(t *testing.T) {
	parallel(200, func(m maker, k int) {
		p := m.program()
		before := comp.Compile(p)
		count := len(p.Funs)
		order := m.Perm(count)
		for _, fun := range order {
			p.Funs = append(p.Funs, copied(p.Funs[fun]))
		}
		c := comp.Compile(p)
		for j, fun := range order {
			if plain(c, count+j) != plain(c, fun) || plain(before, fun) != plain(c, fun) {
				t.Errorf("program %d: function %d has other code than an equal one", k, fun)
			}
		}
	})
}
