package comp_test

import (
	"fmt"
	"math/rand"
	"slices"
	"sync"
	"testing"

	"retroact/api"
	"retroact/comp"
)

// agree checks Depths and Right against the model, and returns whether the code is valid.
func agree(t *testing.T, c api.Code, message ...any) bool {
	t.Helper()
	got, ok := comp.Depths(c)
	want, right := modelDepths(c)
	if ok != right || !slices.Equal(got, want) || comp.Right(c) != right {
		t.Errorf("%s: %v, %v; want %v, %v: %s", fmt.Sprint(message...), got, ok, want, right, listing(c))
	}
	return right
}

// parallel calls a function for each number below a limit, with a random source of its own.
func parallel(count int, f func(m maker, k int)) {
	var group sync.WaitGroup
	for first := range 8 {
		group.Go(func() {
			for k := first; k < count; k += 8 {
				f(maker{rand.New(rand.NewSource(int64(k)))}, k)
			}
		})
	}
	group.Wait()
}

// P14.1, P14.4: the code of arbitrary programs is that of the model, and valid.
func TestArbitraryPrograms(t *testing.T) {
	var lock sync.Mutex
	ops := map[int]int{}
	parallel(3000, func(m maker, k int) {
		p := m.program()
		c, want := comp.Compile(p), modelCompile(p)
		if printed(c) != printed(want) {
			t.Errorf("program %d: %s; want %s", k, listing(c), listing(want))
		}
		if !agree(t, c, "program ", k) {
			t.Errorf("program %d: the code is not valid", k)
		}
		lock.Lock()
		defer lock.Unlock()
		for _, i := range c.Ins {
			ops[i.Op]++
		}
	})
	for op := comp.IConst; op <= comp.IEnd; op++ {
		if ops[op] < 2000 {
			t.Errorf("there are %d instructions with the opcode %d", ops[op], op)
		}
	}
}

// spoiled changes one thing in code.
func (m maker) spoiled(c api.Code) api.Code {
	c = copied(c)
	near := func(n int) int {
		return pick(m, n-1, n+1, n+m.Intn(9)-4, 0, 1, -1, m.Intn(len(c.Ins)+1), 32768, 32769, 1<<62, -1<<63)
	}
	entry := &c.Ons[m.Intn(len(c.Ons))]
	if m.Intn(3) == 0 {
		entry = &c.Funs[m.Intn(len(c.Funs))]
	}
	i := &c.Ins[m.Intn(len(c.Ins))]
	switch m.Intn(20) {
	case 0:
		entry.At = near(entry.At)
	case 1:
		entry.Slots = near(entry.Slots)
	case 2:
		entry.Params = near(entry.Params)
	case 3:
		entry.Msg = pick(m, "", "x")
	case 4:
		entry.Actor = pick(m, "", "x")
	case 5:
		at := m.Intn(len(c.Ins))
		c.Ins = slices.Delete(c.Ins, at, at+1)
	case 6:
		at := m.Intn(len(c.Ins))
		c.Ins = slices.Insert(c.Ins, at, c.Ins[m.Intn(len(c.Ins))])
	case 7:
		v := &c.Consts[m.Intn(len(c.Consts))]
		*v = pick(m, api.Value{Kind: v.Kind + 1, N: v.N, S: v.S, T: v.T}, api.Value{Kind: v.Kind, N: v.N + 1, S: v.S, T: v.T}, api.Value{Kind: v.Kind, N: v.N, S: v.S, T: v.T, L: []api.Value{{Kind: api.VUnit}}}, api.Value{Kind: api.VList})
	case 8, 9, 10:
		i.Op = pick(m, near(i.Op), 1+m.Intn(30), 1+m.Intn(30))
	case 11, 12, 13, 14:
		i.B = near(i.B)
	default:
		i.A = near(i.A)
	}
	return c
}

// P14.2: changes of valid code.
func TestChanges(t *testing.T) {
	var lock sync.Mutex
	valid, all := 0, 0
	parallel(300, func(m maker, k int) {
		c := comp.Compile(m.program())
		rights := 0
		for j := range 150 {
			changed := m.spoiled(c)
			if j%10 == 0 {
				changed = m.spoiled(changed)
			}
			if agree(t, changed, "program ", k, " change ", j) {
				rights++
			}
		}
		lock.Lock()
		defer lock.Unlock()
		valid, all = valid+rights, all+150
	})
	if valid < all/20 || valid > all/2 {
		t.Errorf("%d of %d changes are valid", valid, all)
	}
}

// instructions are those of which small code is made: targets are 0 to 3.
func instructions() []api.Ins {
	l := []api.Ins{
		{Op: comp.IConst}, {Op: comp.ILocal}, {Op: comp.IStore}, {Op: comp.IState}, {Op: comp.ISet}, {Op: comp.ISelf}, {Op: comp.IMake, A: 1}, {Op: comp.IMake, A: 1, B: 2}, {Op: comp.IGet}, {Op: comp.IWith}, {Op: comp.IBind, A: 1}, {Op: comp.IPop},
		{Op: comp.IUnary, A: api.XNot}, {Op: comp.IBinary, A: api.XAdd}, {Op: comp.IPrim, A: api.PLen}, {Op: comp.IPrim, A: api.PAt}, {Op: comp.IPrim, A: api.PSub}, {Op: comp.IApply}, {Op: comp.IApply, A: 1}, {Op: comp.IReturn},
		{Op: comp.ISend}, {Op: comp.ISend, B: 1}, {Op: comp.IAfter}, {Op: comp.ISpawn}, {Op: comp.ISpawn, B: 3}, {Op: comp.IAsk}, {Op: comp.IStop}, {Op: comp.IFail}, {Op: comp.IInit}, {Op: comp.IInit, A: 1}, {Op: comp.IInit, A: 2}, {Op: comp.IEnd},
	}
	for target := range 4 {
		l = append(l, api.Ins{Op: comp.IJump, A: target}, api.Ins{Op: comp.IFalse, A: target}, api.Ins{Op: comp.ITrue, A: target}, api.Ins{Op: comp.ICase, B: target}, api.Ins{Op: comp.INext, A: target})
	}
	return l
}

// small returns the ways to make one entry of each kind of some instructions, which are first.
func small(ins []api.Ins) []api.Code {
	c := api.Code{Ins: ins, Consts: []api.Value{{Kind: api.VInt}, {Kind: api.VList}}, Names: []string{"x"}}
	fun, initial, handler := c, c, c
	fun.Ins = append(slices.Clone(ins), api.Ins{Op: comp.IEnd})
	fun.Funs, fun.Ons = []api.Entry{{Slots: 1}}, []api.Entry{{Msg: "x", At: len(ins)}}
	initial.Ons = []api.Entry{{Slots: 1}}
	handler.Ons = []api.Entry{{Msg: "x", Slots: 1}}
	return []api.Code{fun, initial, handler}
}

// P14.2: all code of up to three instructions, in each kind of entry.
func TestSmallCode(t *testing.T) {
	all := instructions()
	var lock sync.Mutex
	valid := map[string]int{}
	check := func(ins ...api.Ins) {
		for kind, c := range small(ins) {
			if agree(t, c) {
				lock.Lock()
				valid[fmt.Sprint(len(ins), " ", kind)]++
				lock.Unlock()
			}
		}
	}
	parallel(len(all), func(_ maker, k int) {
		check(all[k])
		for _, second := range all {
			check(all[k], second)
			for _, third := range all {
				check(all[k], second, third)
			}
		}
	})
	// Of a single instruction, a function may be a jump to itself, an initializer also an IInit, and a handler an IStop or an IEnd.
	if fmt.Sprint(valid) != "map[1 0:1 1 1:2 1 2:3 2 0:11 2 1:21 2 2:37 3 0:332 3 1:762 3 2:1622]" {
		t.Error(valid)
	}
}

// P14.2: arbitrary code of some more instructions.
func TestArbitraryCode(t *testing.T) {
	all := instructions()
	var lock sync.Mutex
	valid := 0
	parallel(300000, func(m maker, k int) {
		ins := make([]api.Ins, 4+m.Intn(5))
		for k := range ins {
			ins[k] = pick(m, all...)
			if m.Intn(3) > 0 {
				ins[k] = pick(m, all[0], all[0], all[1], all[3], all[2], all[11], all[13], all[25])
			}
			for _, n := range []*int{&ins[k].A, &ins[k].B} {
				if isTarget := ins[k].Op == comp.ICase && n == &ins[k].B || n == &ins[k].A && slices.Contains([]int{comp.IJump, comp.IFalse, comp.ITrue, comp.INext}, ins[k].Op); isTarget {
					*n = m.Intn(len(ins))
				}
			}
		}
		if m.Intn(4) > 0 {
			ins[len(ins)-1] = pick(m, api.Ins{Op: comp.IReturn}, api.Ins{Op: comp.IEnd}, api.Ins{Op: comp.IInit, A: m.Intn(3)}, api.Ins{Op: comp.IJump, A: m.Intn(len(ins))}, api.Ins{Op: comp.IStop})
		}
		if agree(t, pick(m, small(ins)...), "code ", k) {
			lock.Lock()
			valid++
			lock.Unlock()
		}
	})
	if valid < 3000 {
		t.Errorf("%d are valid", valid)
	}
}
