package comp

import "retroact/api"

// operand is a kind of operand.
type operand int

const (
	// unused is that of operands that must be 0.
	unused operand = iota
	constantIndex
	nameIndex
	funIndex
	slot
	// firstSlot is the first of some slots, of which there may be none.
	firstSlot
	// member is the index of a field, a constructor or a state variable.
	member
	// count is the number of values that are popped.
	count
	// spawned is twice a number of values that are popped, plus 1 if one more is popped.
	spawned
	unary
	binary
	primitive
	target
)

// place is a set of kinds of entries.
type place int

const (
	inFunction place = 1 << iota
	inInitializer
	inHandler
	anywhere = inFunction | inInitializer | inHandler
)

// format says which operands an instruction has, where it may be, and what it does to the stack.
type format struct {
	a, b operand
	in   place
	// pops is the number of values that it pops, or that must at least be there, besides those that an operand counts.
	pops int
	// pushes is the number of values that it pushes if the next instruction follows, and onward that if it continues at its target.
	pushes, onward int
	// ends tells that the next instruction does not follow.
	ends bool
	// empties tells that no other values than those that it pops may be there.
	empties bool
}

// formats returns the formats of the instructions by their opcodes.
func formats() map[int]format {
	return map[int]format{
		IConst:  {a: constantIndex, in: anywhere, pushes: 1},
		ILocal:  {a: slot, in: anywhere, pushes: 1},
		IStore:  {a: slot, in: anywhere, pops: 1},
		IState:  {a: member, in: inHandler, pushes: 1},
		ISet:    {a: member, in: inHandler, pops: 1},
		ISelf:   {in: inInitializer | inHandler, pushes: 1},
		IMake:   {a: constantIndex, b: count, in: anywhere, pushes: 1},
		IGet:    {a: member, in: anywhere, pops: 1, pushes: 1},
		IWith:   {a: member, in: anywhere, pops: 2, pushes: 1},
		ICase:   {a: member, b: target, in: anywhere, pops: 1, pushes: 1, onward: 1},
		IBind:   {a: firstSlot, in: anywhere, pops: 1},
		IPop:    {in: anywhere, pops: 1},
		IUnary:  {a: unary, in: anywhere, pops: 1, pushes: 1},
		IBinary: {a: binary, in: anywhere, pops: 2, pushes: 1},
		IPrim:   {a: primitive, in: anywhere, pushes: 1},
		IJump:   {a: target, in: anywhere, ends: true},
		IFalse:  {a: target, in: anywhere, pops: 1},
		ITrue:   {a: target, in: anywhere, pops: 1},
		ICall:   {a: funIndex, b: count, in: anywhere, pushes: 1},
		IApply:  {a: count, in: anywhere, pops: 1, pushes: 1},
		IReturn: {in: inFunction, pops: 1, ends: true, empties: true},
		INext:   {a: target, b: slot, in: inHandler, pops: 2, pushes: 2},
		ISend:   {a: nameIndex, b: count, in: inHandler, pops: 1},
		IAfter:  {a: nameIndex, b: count, in: inHandler, pops: 2},
		ISpawn:  {a: nameIndex, b: spawned, in: inHandler, pushes: 1},
		IAsk:    {a: nameIndex, b: count, in: inHandler, pops: 1},
		IStop:   {in: inHandler, ends: true},
		IFail:   {in: inHandler, pops: 1, ends: true},
		IInit:   {a: count, in: inInitializer, ends: true, empties: true},
		IEnd:    {in: inHandler, ends: true, empties: true},
	}
}

// popped returns the number of values that an instruction of a format pops, or that must at least be there.
func (f format) popped(i api.Ins) int { return f.pops + f.a.counted(i.A) + f.b.counted(i.B) }

// arities are the numbers of arguments of the primitive functions.
var arities = [...]int{api.PLen: 1, api.PAt: 2, api.PPut: 3, api.PSlice: 3, api.PSize: 1, api.PSub: 3, api.PShow: 1}

// counted returns the number of values that an operand tells to be popped.
func (o operand) counted(n int) int {
	switch o {
	case count:
		return n
	case spawned:
		return n/2 + n%2
	case primitive:
		return arities[n]
	default:
		return 0
	}
}
