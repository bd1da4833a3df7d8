package comp

import (
	"retroact/api"
	"retroact/value"
)

// most is the greatest number of slots, and of what an operand counts.
const most = 32768

// region is an entry with the index behind its last instruction.
type region struct {
	api.Entry
	kind place
	end  int
}

// regionsOf returns the regions of code, if its entries are valid.
func regionsOf(c api.Code) ([]region, bool) {
	var l []region
	for _, e := range c.Funs {
		if e.Actor != "" || e.Msg != "" {
			return nil, false
		}
		l = append(l, region{Entry: e, kind: inFunction})
	}
	for _, e := range c.Ons {
		kind := inHandler
		if e.Msg == "" {
			kind = inInitializer
		}
		l = append(l, region{Entry: e, kind: kind})
	}
	for k := range l {
		l[k].end = len(c.Ins)
		if k+1 < len(l) {
			l[k].end = l[k+1].At
		}
		if l[k].At >= l[k].end || !isBetween(l[k].Slots, 0, most) || !isBetween(l[k].Params, 0, l[k].Slots) {
			return nil, false
		}
	}
	return l, len(c.Ons) > 0 && l[0].At == 0
}

func isBetween(n, least, greatest int) bool { return least <= n && n <= greatest }

func areValues(l []api.Value) bool {
	for _, v := range l {
		if !value.Right(v) {
			return false
		}
	}
	return true
}

// validator determines whether the instructions of code are valid, and at which depths they are reachable.
type validator struct {
	code    api.Code
	formats map[int]format
	// depths are those of the instructions, or notReached.
	depths []int
	// arrived are the instructions that are known to be reachable, but not yet what follows them.
	arrived []int
}

const notReached = -1

func newValidator(c api.Code) *validator {
	v := &validator{code: c, formats: formats(), depths: make([]int, len(c.Ins))}
	for k := range v.depths {
		v.depths[k] = notReached
	}
	return v
}

// isValid reports whether the instructions of a region are valid, and sets their depths.
func (v *validator) isValid(in region) bool {
	for _, i := range v.code.Ins[in.At:in.end] {
		f, found := v.formats[i.Op]
		if !found || f.in&in.kind == 0 || !v.isOperand(f.a, i.A, in) || !v.isOperand(f.b, i.B, in) || !v.isMatched(i) {
			return false
		}
	}
	return v.formats[v.code.Ins[in.end-1].Op].ends && v.reach(in)
}

func (v *validator) isOperand(kind operand, n int, in region) bool {
	least, greatest := v.bounds(kind, in)
	return isBetween(n, least, greatest)
}

// bounds returns the least and the greatest value that an operand may have. If the latter is less, there is none.
func (v *validator) bounds(kind operand, in region) (int, int) {
	switch kind {
	case constantIndex:
		return 0, len(v.code.Consts) - 1
	case nameIndex:
		return 0, len(v.code.Names) - 1
	case funIndex:
		return 0, len(v.code.Funs) - 1
	case slot:
		return 0, in.Slots - 1
	case firstSlot:
		return 0, in.Slots
	case member, count:
		return 0, most
	case spawned:
		return 0, 2*most + 1
	case unary:
		return api.XNot, api.XNeg
	case binary:
		return api.XAdd, api.XGe
	case primitive:
		return api.PLen, api.PShow
	case target:
		return in.At, in.end - 1
	default:
		return 0, 0
	}
}

// isMatched reports whether the first operand of an instruction refers to what the instruction needs.
func (v *validator) isMatched(i api.Ins) bool {
	switch i.Op {
	case IMake:
		return isEmpty(v.code.Consts[i.A])
	case ICall:
		return v.code.Funs[i.A].Params == i.B
	default:
		return true
	}
}

// isEmpty reports whether a constant may be filled with values.
func isEmpty(v api.Value) bool {
	return len(v.L) == 0 && (v.Kind == api.VList || v.Kind == api.VRec || v.Kind == api.VVar || v.Kind == api.VFun)
}
