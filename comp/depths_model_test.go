package comp_test

import (
	"retroact/api"
	"retroact/comp"
	"retroact/value"
)

// endOf returns the end of the region of an entry.
func endOf(entries []api.Entry, k, ins int) int {
	if k+1 < len(entries) {
		return entries[k+1].At
	}
	return ins
}

// modelDepths is the plain model of Depths. It determines the sets of depths of all instructions by going through them again and again.
func modelDepths(c api.Code) ([]int, bool) {
	entries := append(append([]api.Entry{}, c.Funs...), c.Ons...)
	if len(c.Ons) == 0 || entries[0].At != 0 {
		return nil, false
	}
	for k, e := range entries {
		isFun := k < len(c.Funs)
		if isFun && (e.Actor != "" || e.Msg != "") || k > 0 && e.At <= entries[k-1].At || e.At >= len(c.Ins) || e.Params < 0 || e.Params > e.Slots || e.Slots < 0 || e.Slots > 32768 {
			return nil, false
		}
	}
	for _, v := range c.Consts {
		if !value.Right(v) {
			return nil, false
		}
	}
	depths := make([]int, len(c.Ins))
	for k, e := range entries {
		kind := "handler"
		if k < len(c.Funs) {
			kind = "function"
		} else if e.Msg == "" {
			kind = "initializer"
		}
		if !modelRegion(c, e, endOf(entries, k, len(c.Ins)), kind, depths) {
			return nil, false
		}
	}
	return depths, true
}

// effect is what an instruction does to the stack: it needs some values, and leaves as many more or less for the next instruction and for its target, if these follow.
type effect struct {
	needs        int
	next, onward bool
	more, there  int
	target       int
}

func modelRegion(c api.Code, e api.Entry, end int, kind string, depths []int) bool {
	effects := map[int]effect{}
	for at := e.At; at < end; at++ {
		f, ok := modelEffect(c, c.Ins[at], e, end, kind)
		if !ok {
			return false
		}
		effects[at] = f
	}
	if effects[end-1].next {
		return false
	}
	sets := map[int]map[int]bool{e.At: {0: true}}
	for changed := true; changed; {
		changed = false
		for at := e.At; at < end; at++ {
			if len(sets[at]) > 1 {
				return false
			}
			for d := range sets[at] {
				f := effects[at]
				exact := c.Ins[at].Op == comp.IReturn || c.Ins[at].Op == comp.IInit || c.Ins[at].Op == comp.IEnd
				if d < f.needs || exact && d != f.needs {
					return false
				}
				changed = f.next && added(sets, at+1, d+f.more) || changed
				changed = f.onward && added(sets, f.target, d+f.there) || changed
			}
		}
	}
	for at := e.At; at < end; at++ {
		depths[at] = -1
		for d := range sets[at] {
			depths[at] = d
		}
	}
	return true
}

func added(sets map[int]map[int]bool, at, d int) bool {
	if sets[at][d] {
		return false
	}
	if sets[at] == nil {
		sets[at] = map[int]bool{}
	}
	sets[at][d] = true
	return true
}

// modelEffect returns the effect of an instruction if its operands are valid in a region.
func modelEffect(c api.Code, i api.Ins, e api.Entry, end int, kind string) (effect, bool) {
	below := func(n, limit int) bool { return n >= 0 && n < limit }
	size := func(n int) bool { return below(n, 32769) }
	into := func(n int) bool { return n >= e.At && n < end }
	// step is the effect of an instruction that the next one follows.
	step := func(pops, pushes int, ok bool) (effect, bool) {
		return effect{needs: pops, next: true, more: pushes - pops}, ok
	}
	handler := kind == "handler"
	switch i.Op {
	case comp.IConst:
		return step(0, 1, below(i.A, len(c.Consts)) && i.B == 0)
	case comp.ILocal:
		return step(0, 1, below(i.A, e.Slots) && i.B == 0)
	case comp.IStore:
		return step(1, 0, below(i.A, e.Slots) && i.B == 0)
	case comp.IState:
		return step(0, 1, size(i.A) && i.B == 0 && handler)
	case comp.ISet:
		return step(1, 0, size(i.A) && i.B == 0 && handler)
	case comp.ISelf:
		return step(0, 1, i.A == 0 && i.B == 0 && kind != "function")
	case comp.IMake:
		if !below(i.A, len(c.Consts)) {
			return effect{}, false
		}
		v := c.Consts[i.A]
		return step(i.B, 1, size(i.B) && len(v.L) == 0 && (v.Kind == api.VList || v.Kind == api.VRec || v.Kind == api.VVar || v.Kind == api.VFun))
	case comp.IGet:
		return step(1, 1, size(i.A) && i.B == 0)
	case comp.IWith:
		return step(2, 1, size(i.A) && i.B == 0)
	case comp.ICase:
		return effect{needs: 1, next: true, onward: true, target: i.B}, size(i.A) && into(i.B)
	case comp.IBind:
		return step(1, 0, below(i.A, e.Slots+1) && i.B == 0)
	case comp.IPop:
		return step(1, 0, i.A == 0 && i.B == 0)
	case comp.IUnary:
		return step(1, 1, (i.A == api.XNot || i.A == api.XNeg) && i.B == 0)
	case comp.IBinary:
		return step(2, 1, i.A >= 20 && i.A <= 31 && i.B == 0)
	case comp.IPrim:
		pops := map[int]int{api.PLen: 1, api.PAt: 2, api.PPut: 3, api.PSlice: 3, api.PSize: 1, api.PSub: 3, api.PShow: 1}[i.A]
		return step(pops, 1, pops > 0 && i.B == 0)
	default:
		return modelControl(c, i, e, end, kind)
	}
}

func modelControl(c api.Code, i api.Ins, e api.Entry, end int, kind string) (effect, bool) {
	below := func(n, limit int) bool { return n >= 0 && n < limit }
	size := func(n int) bool { return below(n, 32769) }
	into := func(n int) bool { return n >= e.At && n < end }
	sent := func(needs int) (effect, bool) {
		return effect{needs: needs, next: true, more: -needs}, below(i.A, len(c.Names)) && size(i.B) && kind == "handler"
	}
	zero := i.A == 0 && i.B == 0
	switch i.Op {
	case comp.IJump:
		return effect{onward: true, target: i.A}, into(i.A) && i.B == 0
	case comp.IFalse, comp.ITrue:
		return effect{needs: 1, next: true, more: -1, onward: true, there: -1, target: i.A}, into(i.A) && i.B == 0
	case comp.ICall:
		return effect{needs: i.B, next: true, more: 1 - i.B}, below(i.A, len(c.Funs)) && c.Funs[i.A].Params == i.B && size(i.B)
	case comp.IApply:
		return effect{needs: i.A + 1, next: true, more: -i.A}, size(i.A) && i.B == 0
	case comp.IReturn:
		return effect{needs: 1}, zero && kind == "function"
	case comp.INext:
		return effect{needs: 2, next: true, onward: true, there: -2, target: i.A}, into(i.A) && below(i.B, e.Slots) && kind == "handler"
	case comp.ISend, comp.IAsk:
		return sent(i.B + 1)
	case comp.IAfter:
		return sent(i.B + 2)
	case comp.ISpawn:
		pops := i.B/2 + i.B%2
		return effect{needs: pops, next: true, more: 1 - pops}, below(i.A, len(c.Names)) && below(i.B, 2*32768+2) && kind == "handler"
	case comp.IStop:
		return effect{}, zero && kind == "handler"
	case comp.IFail:
		return effect{needs: 1}, zero && kind == "handler"
	case comp.IInit:
		return effect{needs: i.A}, size(i.A) && i.B == 0 && kind == "initializer"
	case comp.IEnd:
		return effect{}, zero && kind == "handler"
	default:
		return effect{}, false
	}
}
