package comp_test

import (
	"fmt"
	"math"
	"slices"
	"strings"
	"testing"

	"retroact/api"
	"retroact/comp"
)

// depths checks what Depths and Right return: the depths with spaces in between, or nothing for code that is not valid.
func depths(t *testing.T, c api.Code, want string, message ...any) {
	t.Helper()
	d, ok := comp.Depths(c)
	if got := strings.Trim(fmt.Sprint(d), "[]"); got != want || ok != (want != "") || comp.Right(c) != ok || !ok && d != nil {
		t.Errorf("%s: %s, %v; want %s: %s", fmt.Sprint(message...), got, ok, want, listing(c))
	}
}

// right checks whether code is valid.
func right(t *testing.T, c api.Code, want bool, message ...any) {
	t.Helper()
	d, ok := comp.Depths(c)
	if ok != want || comp.Right(c) != want || len(d) != len(c.Ins) && ok || !ok && d != nil {
		t.Errorf("%s: %v, %v; want %v: %s", fmt.Sprint(message...), d, ok, want, listing(c))
	}
}

// kinds are the kinds of entries.
func kinds() []string { return []string{"function", "initializer", "handler"} }

// ender returns an instruction with which an entry of a kind may end at depth 0, or at any depth if it is not reachable.
func ender(kind string) string {
	return map[string]string{"function": "jump", "initializer": "init", "handler": "end"}[kind]
}

// within returns code with an entry of a kind, which has two parameters and four slots, and others around it.
func within(kind, s string) api.Code {
	c := new(assembler)
	c.Consts = constants()
	c.Names = []string{"x", "y", "z"}
	plain := map[string]string{"function": "const(int1) return", "initializer": "init", "handler": "end"}
	c.fun(3, 5, plain["function"]).fun(0, 0, plain["function"])
	if kind == "function" {
		c.fun(2, 4, s)
	}
	c.on("A", "", 1, 1, plain["initializer"])
	if kind != "function" {
		c.on("A", map[string]string{"handler": "X"}[kind], 2, 4, s)
	}
	return c.on("A", "Y", 0, 0, plain["handler"]).Code
}

// start is the first instruction of the entry of a kind in such code.
func start(kind string) int {
	return map[string]int{"function": 4, "initializer": 5, "handler": 5}[kind]
}

// constants are of all kinds; those with the indices 1 to 4 are for IMake.
func constants() []api.Value {
	one := []api.Value{{Kind: api.VInt, N: 1}}
	return []api.Value{
		{Kind: api.VInt, N: 1}, {Kind: api.VList}, {Kind: api.VRec, T: "P"}, {Kind: api.VVar, T: "V", N: 4096}, {Kind: api.VFun, N: api.MaxNum}, {Kind: api.VUnit}, {Kind: api.VBool, N: 1}, {Kind: api.VText, S: "a"}, {Kind: api.VRef, T: "A", S: "0"},
		{Kind: api.VSpan, N: 0, M: 1}, {Kind: api.VList, L: one}, {Kind: api.VRec, T: "P", L: one}, {Kind: api.VVar, T: "V", L: one}, {Kind: api.VFun, L: one},
	}
}

// rule says where an instruction may be, and which operands it may have; targets are counted from the first instruction of the entry.
type rule struct {
	op     int
	in     string
	as, bs [2]int
}

const most = 32768

// rules are those of all instructions in code of within with four slots, in an entry of four instructions. ICall and IMake have further conditions.
func rules() []rule {
	const every = "function initializer handler"
	none, sizes, targets, names := [2]int{0, 0}, [2]int{0, most}, [2]int{0, 3}, [2]int{0, 2}
	return []rule{
		{comp.IConst, every, [2]int{0, 13}, none}, {comp.ILocal, every, [2]int{0, 3}, none}, {comp.IStore, every, [2]int{0, 3}, none}, {comp.IState, "handler", sizes, none}, {comp.ISet, "handler", sizes, none}, {comp.ISelf, "initializer handler", none, none},
		{comp.IMake, every, [2]int{1, 4}, sizes}, {comp.IGet, every, sizes, none}, {comp.IWith, every, sizes, none}, {comp.ICase, every, sizes, targets}, {comp.IBind, every, [2]int{0, 4}, none}, {comp.IPop, every, none, none},
		{comp.IUnary, every, [2]int{18, 19}, none}, {comp.IBinary, every, [2]int{20, 31}, none}, {comp.IPrim, every, [2]int{1, 7}, none}, {comp.IJump, every, targets, none}, {comp.IFalse, every, targets, none}, {comp.ITrue, every, targets, none},
		{comp.IApply, every, sizes, none}, {comp.IReturn, "function", none, none}, {comp.INext, "handler", targets, [2]int{0, 3}}, {comp.ISend, "handler", names, sizes}, {comp.IAfter, "handler", names, sizes}, {comp.ISpawn, "handler", names, [2]int{0, 2*most + 1}},
		{comp.IAsk, "handler", names, sizes}, {comp.IStop, "handler", none, none}, {comp.IFail, "handler", none, none}, {comp.IInit, "initializer", sizes, none}, {comp.IEnd, "handler", none, none},
	}
}

// tried are operands at the bounds of a range, between them and beyond them.
func tried(bounds [2]int) []int {
	return []int{bounds[0], bounds[1], (bounds[0] + bounds[1]) / 2, bounds[0] - 1, bounds[1] + 1, bounds[1] + 2, -2, 1000, 100000, math.MinInt, math.MaxInt, math.MinInt + bounds[1], 1 << 32}
}

func isIn(n int, bounds [2]int) bool { return bounds[0] <= n && n <= bounds[1] }

// P14.2: each operand of each instruction, at both of its bounds and beyond them, in each kind of entry. The instruction is not reachable, so that the depths do not matter.
func TestOperands(t *testing.T) {
	for _, r := range rules() {
		for _, kind := range kinds() {
			c := within(kind, strings.Repeat(ender(kind)+" ", 4))
			at := start(kind)
			allowed := strings.Contains(r.in, kind)
			place := func(a, b int) api.Code {
				c := copied(c)
				if r.op == comp.IJump || r.op == comp.IFalse || r.op == comp.ITrue || r.op == comp.INext {
					a += at
				}
				if r.op == comp.ICase {
					b += at
				}
				c.Ins[at+2] = api.Ins{Op: r.op, A: a, B: b}
				return c
			}
			for _, a := range tried(r.as) {
				right(t, place(a, r.bs[0]), allowed && isIn(a, r.as), kind, " opcode ", r.op, " A ", a)
				right(t, place(a, r.bs[1]), allowed && isIn(a, r.as), kind, " opcode ", r.op, " A ", a)
			}
			for _, b := range tried(r.bs) {
				right(t, place(r.as[0], b), allowed && isIn(b, r.bs), kind, " opcode ", r.op, " B ", b)
				right(t, place(r.as[1], b), allowed && isIn(b, r.bs), kind, " opcode ", r.op, " B ", b)
			}
		}
	}
}

// P14.2: there are no other opcodes.
func TestOpcodes(t *testing.T) {
	for _, kind := range kinds() {
		c := within(kind, strings.Repeat(ender(kind)+" ", 4))
		right(t, c, true, kind)
		for _, op := range []int{0, -1, 31, 32, 60, math.MinInt, math.MaxInt, 1 << 32, 1<<32 + comp.IPop} {
			c.Ins[start(kind)+2] = api.Ins{Op: op}
			right(t, c, false, kind, " opcode ", op)
		}
	}
}

// P14.2: the numbers of constants, names and functions bound what refers to them, whether there are some or none.
func TestIndices(t *testing.T) {
	for count := range 3 {
		c := new(assembler)
		for range count {
			c.fun(0, 0, "jump")
			c.Consts, c.Names = append(c.Consts, api.Value{Kind: api.VList}), append(c.Names, "")
		}
		c.on("", "x", 0, 0, "stop end end")
		right(t, c.Code, true, count)
		for n := -1; n < 4; n++ {
			for _, op := range []int{comp.IConst, comp.IMake, comp.ISend, comp.IAfter, comp.ISpawn, comp.IAsk, comp.ICall} {
				c.Ins[count+1] = api.Ins{Op: op, A: n}
				right(t, c.Code, 0 <= n && n < count, count, " opcode ", op, " A ", n)
			}
		}
	}
}

// P14.2: the slots of an entry bound those of its instructions; IBind may begin behind the last one.
func TestSlots(t *testing.T) {
	for slots := range 3 {
		for n := -1; n < 4; n++ {
			for _, kind := range kinds() {
				c := within(kind, strings.Repeat(ender(kind)+" ", 4))
				for _, l := range [][]api.Entry{c.Funs, c.Ons} {
					for k := range l {
						if l[k].At == start(kind) {
							l[k].Slots, l[k].Params = slots, 0
						} else {
							l[k].Slots = 9
						}
					}
				}
				for _, op := range []int{comp.ILocal, comp.IStore, comp.IBind} {
					c.Ins[start(kind)+2] = api.Ins{Op: op, A: n}
					right(t, c, 0 <= n && (n < slots || n == slots && op == comp.IBind), kind, slots, " opcode ", op, " A ", n)
				}
				c.Ins[start(kind)+2] = api.Ins{Op: comp.INext, A: start(kind), B: n}
				right(t, c, 0 <= n && n < slots && kind == "handler", kind, slots, " INext ", n)
			}
		}
	}
}

// P14.2: an ICall has as many arguments as its function has parameters.
func TestArguments(t *testing.T) {
	for _, kind := range kinds() {
		c := within(kind, strings.Repeat(ender(kind)+" ", 4))
		for a := -1; a < len(c.Funs)+2; a++ {
			for b := -1; b < 6; b++ {
				c.Ins[start(kind)+2] = api.Ins{Op: comp.ICall, A: a, B: b}
				right(t, c, 0 <= a && a < len(c.Funs) && b == c.Funs[a].Params, kind, " function ", a, " with ", b)
			}
		}
	}
	c := new(assembler).fun(most, most, "jump").on("", "x", 0, 0, "stop call0/32768 end").Code
	right(t, c, true, "a call with 32768 arguments")
}

// P14.2: the constants of IMake.
func TestMade(t *testing.T) {
	for _, kind := range kinds() {
		for count := range 3 {
			for a := range constants() {
				c := within(kind, strings.Repeat(ender(kind)+" ", 4))
				c.Ins[start(kind)+2] = api.Ins{Op: comp.IMake, A: a, B: count}
				right(t, c, 1 <= a && a <= 4, kind, " constant ", a, " with ", count)
				c.Consts[a].L = []api.Value{{Kind: api.VUnit}, {Kind: api.VUnit}}[:0:2]
				if a == 1 {
					right(t, c, true, "a list with room")
				}
			}
		}
	}
}

// P14.2: all constants are valid values, also those that no instruction refers to.
func TestValues(t *testing.T) {
	deep := api.Value{Kind: api.VInt}
	for range 16383 {
		deep = api.Value{Kind: api.VList, L: []api.Value{deep}}
	}
	bad := []api.Value{{}, {Kind: 11}, {Kind: -1}, {Kind: api.VUnit, N: 1}, {Kind: api.VBool, N: 2}, {Kind: api.VInt, N: api.MaxNum + 1}, {Kind: api.VInt, N: -api.MaxNum - 1}, {Kind: api.VText, S: strings.Repeat("x", 4097)}, {Kind: api.VText, T: "P"}, {Kind: api.VList, N: 1}, {Kind: api.VList, L: []api.Value{{}}},
		{Kind: api.VList, L: slices.Repeat([]api.Value{{Kind: api.VUnit}}, 4097)}, {Kind: api.VRec}, {Kind: api.VRec, T: "p"}, {Kind: api.VVar, T: "V", N: 4097}, {Kind: api.VVar, T: "V", N: -1}, {Kind: api.VRef, T: "A"}, {Kind: api.VRef, T: "A", S: "1"}, {Kind: api.VFun, N: -1}, {Kind: api.VFun, N: api.MaxNum + 1}, {Kind: api.VSpan, N: 1, M: 1},
		{Kind: api.VUnit, M: 1}, {Kind: api.VList, L: []api.Value{deep}}}
	good := append(constants(), api.Value{Kind: api.VText, S: strings.Repeat("x", 4096)}, api.Value{Kind: api.VInt, N: -api.MaxNum}, api.Value{Kind: api.VVar, T: "V", N: 4096}, deep, api.Value{Kind: api.VList, L: slices.Repeat([]api.Value{{Kind: api.VUnit}}, 4096)})
	check := func(v api.Value, want bool) {
		c := new(assembler).fun(0, 0, "const(int1) return").on("", "x", 0, 0, "end").Code
		c.Consts[0] = v
		right(t, c, want, "used: kind ", v.Kind)
		for at := range 3 {
			c.Consts = []api.Value{{Kind: api.VUnit}, {Kind: api.VUnit}, {Kind: api.VUnit}, {Kind: api.VUnit}}
			c.Consts[1+at] = v
			right(t, c, want, "unused: kind ", v.Kind)
		}
	}
	for _, v := range bad {
		check(v, false)
	}
	for _, v := range good {
		check(v, true)
	}
}

// P14.2: the entries.
func TestEntriesOfCode(t *testing.T) {
	base := func() api.Code {
		return new(assembler).fun(1, 2, "local0 return").fun(0, 0, "const(int1) return").on("A", "", 2, 3, "init").on("A", "X", 1, 1, "const(int1) pop end").on("B", "", 0, 0, "init").on("B", "Y", 0, 1, "end").Code
	}
	depths(t, base(), "0 1 0 1 0 0 1 0 0 0")
	for name, change := range map[string]func(c *api.Code){
		"nothing":                        func(c *api.Code) { *c = api.Code{} },
		"no instructions":                func(c *api.Code) { c.Ins = nil },
		"no entries":                     func(c *api.Code) { c.Funs, c.Ons = nil, nil },
		"no Ons":                         func(c *api.Code) { c.Ons = nil },
		"no Ons, but the rest":           func(c *api.Code) { c.Ons, c.Ins = nil, c.Ins[:4] },
		"the first At too great":         func(c *api.Code) { c.Funs[0].At = 1 },
		"the first At negative":          func(c *api.Code) { c.Funs[0].At = -1 },
		"equal At of functions":          func(c *api.Code) { c.Funs[1].At = 0 },
		"descending At":                  func(c *api.Code) { c.Funs[1].At, c.Ons[0].At = 4, 2 },
		"equal At of both":               func(c *api.Code) { c.Ons[0].At = 2 },
		"equal At of Ons":                func(c *api.Code) { c.Ons[2].At = 5 },
		"the last At beyond":             func(c *api.Code) { c.Ons[3].At = 10 },
		"the last At far beyond":         func(c *api.Code) { c.Ons[3].At = math.MaxInt },
		"the last At negative":           func(c *api.Code) { c.Ons[3].At = math.MinInt },
		"an At between beyond":           func(c *api.Code) { c.Ons[1].At = 11 },
		"an At between negative":         func(c *api.Code) { c.Ons[0].At = -5 },
		"Ons before Funs":                func(c *api.Code) { c.Funs[0].At, c.Funs[1].At, c.Ons[0].At = 4, 5, 0 },
		"an Actor":                       func(c *api.Code) { c.Funs[0].Actor = "A" },
		"an Actor of the last":           func(c *api.Code) { c.Funs[1].Actor = "A" },
		"a Msg":                          func(c *api.Code) { c.Funs[0].Msg = "X" },
		"a Msg of the last":              func(c *api.Code) { c.Funs[1].Msg = "X" },
		"a handler without Msg":          func(c *api.Code) { c.Ons[1].Msg = "" },
		"an initializer with Msg":        func(c *api.Code) { c.Ons[0].Msg = "X" },
		"without the first instruction":  func(c *api.Code) { c.Ins = c.Ins[1:] },
		"with an instruction behind":     func(c *api.Code) { c.Ins = append(c.Ins, api.Ins{Op: comp.IPop}) },
		"with an instruction before":     func(c *api.Code) { c.Ins = append([]api.Ins{{Op: comp.IConst}}, c.Ins...) },
		"the last instruction unchecked": func(c *api.Code) { c.Ins[9].A = 1 },
	} {
		c := base()
		change(&c)
		depths(t, c, "", name)
	}
	for name, change := range map[string]func(c *api.Code){
		"no names, an empty one, equal ones": func(c *api.Code) { c.Names = []string{"", "X", "X"} },
		"other names":                        func(c *api.Code) { c.Names = []string{strings.Repeat("x", 5000), "\x00"} },
		"actors without names":               func(c *api.Code) { c.Ons[0].Actor, c.Ons[1].Actor, c.Ons[3].Actor = "", "", "a b" },
		"equal handlers":                     func(c *api.Code) { c.Ons[1].Actor, c.Ons[1].Msg = "B", "Y" },
		"other messages":                     func(c *api.Code) { c.Ons[1].Msg, c.Ons[3].Msg = " ", strings.Repeat("x", 5000) },
		"equal constants":                    func(c *api.Code) { c.Consts = slices.Repeat(c.Consts, 2) },
		"the rest of Funs and Ons":           func(c *api.Code) { c.Funs[0].Params, c.Ons[0].Params = 2, 0 },
	} {
		c := base()
		change(&c)
		depths(t, c, "0 1 0 1 0 0 1 0 0 0", name)
	}
	depths(t, new(assembler).on("", "", 0, 0, "init").Code, "0", "a single entry")
	depths(t, new(assembler).on("", "x", 0, 0, "end").Code, "0", "a single handler")
	late := new(assembler).on("", "", 0, 0, "init init").Code
	late.Ons[0].At = 1
	depths(t, late, "", "a single entry that is not first")
	late = new(assembler).fun(0, 0, "const(int1) return").Code
	depths(t, late, "", "a single function")
}

// P14.2: Params and Slots of each entry.
func TestSizes(t *testing.T) {
	for _, kind := range kinds() {
		for _, row := range []struct {
			params, slots int
			want          bool
		}{
			{0, 0, true}, {0, 1, true}, {1, 1, true}, {3, 4, true}, {0, most, true}, {most, most, true}, {most - 1, most, true},
			{1, 0, false}, {-1, 0, false}, {-1, 5, false}, {0, -1, false}, {-1, -1, false}, {-2, -1, false}, {5, 4, false}, {0, most + 1, false}, {most + 1, most + 1, false}, {most + 1, most, false}, {math.MinInt, 1, false}, {1, math.MinInt, false}, {math.MaxInt, math.MaxInt, false}, {0, math.MaxInt, false}, {0, 1 << 32, false},
		} {
			c := within(kind, ender(kind))
			for _, l := range [][]api.Entry{c.Funs, c.Ons} {
				for k := range l {
					if l[k].At == start(kind) {
						l[k].Params, l[k].Slots = row.params, row.slots
					}
				}
			}
			right(t, c, row.want, kind, row)
		}
	}
}
