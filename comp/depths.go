package comp

import "retroact/api"

// reach sets the depths of the instructions of a region whose operands are valid. It reports whether each instruction that is reachable has one depth, and as many values as it needs.
func (v *validator) reach(in region) bool {
	ok := v.arrive(in.At, 0)
	for ok && len(v.arrived) > 0 {
		last := len(v.arrived) - 1
		at := v.arrived[last]
		v.arrived = v.arrived[:last]
		ok = v.leave(at)
	}
	return ok
}

// arrive notes that an instruction is reachable at a depth, and reports whether it is reachable at no other one.
func (v *validator) arrive(at, depth int) bool {
	if v.depths[at] == notReached {
		v.depths[at] = depth
		v.arrived = append(v.arrived, at)
	}
	return v.depths[at] == depth
}

// leave goes on with the instructions that may follow one that is reachable.
func (v *validator) leave(at int) bool {
	i := v.code.Ins[at]
	f := v.formats[i.Op]
	rest := v.depths[at] - f.popped(i)
	ok := rest >= 0 && (rest == 0 || !f.empties)
	if ok && !f.ends {
		ok = v.arrive(at+1, rest+f.pushes)
	}
	if to, found := f.target(i); ok && found {
		ok = v.arrive(to, rest+f.onward)
	}
	return ok
}

// target returns the target of an instruction of a format, if it has one.
func (f format) target(i api.Ins) (int, bool) {
	switch {
	case f.a == target:
		return i.A, true
	case f.b == target:
		return i.B, true
	default:
		return 0, false
	}
}
