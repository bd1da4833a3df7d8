package comp_test

import (
	"fmt"
	"strings"
	"testing"

	"retroact/api"
	"retroact/comp"
)

// stackRow is an instruction with the number of values that it needs, and how many there are behind it if it takes these alone.
type stackRow struct {
	ins         string
	needs, left int
}

func stackRows() []stackRow {
	l := []stackRow{
		{"const(int1)", 0, 1}, {"local", 0, 1}, {"store", 1, 0}, {"state", 0, 1}, {"set", 1, 0}, {"self", 0, 1}, {"make(list)", 0, 1}, {"make/1(list)", 1, 1}, {"make/5(list)", 5, 1}, {"get3", 1, 1}, {"with3", 2, 1}, {"bind", 1, 0}, {"pop", 1, 0}, {"unary18", 1, 1}, {"unary19", 1, 1},
		{"prim1", 1, 1}, {"prim2", 2, 1}, {"prim3", 3, 1}, {"prim4", 3, 1}, {"prim5", 1, 1}, {"prim6", 3, 1}, {"prim7", 1, 1}, {"call1", 0, 1}, {"call0/3", 3, 1}, {"apply", 1, 1}, {"apply1", 2, 1}, {"apply4", 5, 1},
		{"send'a'", 1, 0}, {"send/1'a'", 2, 0}, {"send/3'a'", 4, 0}, {"after'a'", 2, 0}, {"after/1'a'", 3, 0}, {"after/3'a'", 5, 0}, {"spawn'a'", 0, 1}, {"spawn/1'a'", 1, 1}, {"spawn/2'a'", 1, 1}, {"spawn/3'a'", 2, 1}, {"spawn/8'a'", 4, 1}, {"spawn/9'a'", 5, 1}, {"ask'a'", 1, 0}, {"ask/2'a'", 3, 0},
	}
	for op := api.XAdd; op <= api.XGe; op++ {
		l = append(l, stackRow{fmt.Sprint("binary", op), 2, 1})
	}
	return l
}

// emptied returns instructions that remove some values from the stack and end an entry.
func emptied(kind string, count int) string {
	switch {
	case kind == "handler":
		return strings.Repeat("pop ", count) + "end"
	case kind == "initializer":
		return fmt.Sprint("init", count)
	case count == 0:
		return "const(int1) return"
	default:
		return strings.Repeat("pop ", count-1) + "return"
	}
}

// here returns whether an instruction may be in an entry of a kind.
func here(ins, kind string) bool {
	op := (&notation{ins}).op(insNames())
	for _, r := range rules() {
		if r.op == op {
			return strings.Contains(r.in, kind)
		}
	}
	return true
}

// P14.2: an instruction needs some values, whichever others lie below, and leaves others.
func TestStack(t *testing.T) {
	for _, row := range stackRows() {
		for _, kind := range kinds() {
			for depth := range 9 {
				c := within(kind, strings.Repeat("const(int1) ", depth)+row.ins+" "+emptied(kind, max(depth-row.needs+row.left, 0)))
				want := depth >= row.needs && here(row.ins, kind)
				right(t, c, want, kind, " ", row.ins, " depth ", depth)
				if d, _ := comp.Depths(c); want && (d[start(kind)+depth] != depth || d[start(kind)+depth+1] != depth-row.needs+row.left) {
					t.Errorf("%s %s: %v", kind, row.ins, d)
				}
			}
		}
	}
}

// P14.2: the greatest numbers of values.
func TestMany(t *testing.T) {
	values := strings.Repeat("const(int1) ", most+2)
	for ins, needs := range map[string]int{"make/32768(list)": most, "apply32768": most + 1, "send/32768'x'": most + 1, "after/32768'x'": most + 2, "ask/32768'x'": most + 1, "spawn/65536'x'": most, "spawn/65537'x'": most + 1, "call/32768": most} {
		for missing := range 2 {
			count := needs - missing
			c := new(assembler).fun(most, most, "jump").on("", "x", 0, 0, ins+" stop").Code
			c.Consts = []api.Value{{Kind: api.VList}}
			before := make([]api.Ins, count)
			for k := range before {
				before[k] = api.Ins{Op: comp.IConst}
			}
			c.Ins = append(append([]api.Ins{c.Ins[0]}, before...), c.Ins[1:]...)
			right(t, c, missing == 0, ins, " with ", count)
		}
	}
	right(t, new(assembler).on("", "", 0, 0, values[:len("const(int1) ")*most]+"init32768").Code, true, "init32768")
	right(t, new(assembler).on("", "", 0, 0, values[:len("const(int1) ")*(most+1)]+"init32768").Code, false, "init32768")
}

// P14.2: the depths of code, or that it is not valid, by hand.
func TestDepths(t *testing.T) {
	for _, row := range [][3]string{
		// Instructions that end an entry, at each depth.
		{"function", "return", ""}, {"function", "const(int1) return", "0 1"}, {"function", "const(int1) const(int1) return", ""}, {"function", "const(int1) const(int1) const(int1) return", ""},
		{"initializer", "init", "0"}, {"initializer", "init1", ""}, {"initializer", "const(int1) init", ""}, {"initializer", "const(int1) init1", "0 1"}, {"initializer", "const(int1) init2", ""}, {"initializer", "self self init1", ""}, {"initializer", "self self init2", "0 1 2"}, {"initializer", "self self init3", ""},
		{"handler", "end", "0"}, {"handler", "const(int1) end", ""}, {"handler", "self const(int1) end", ""}, {"handler", "stop", "0"}, {"handler", "self stop", "0 1"}, {"handler", "self self stop", "0 1 2"}, {"handler", "fail", ""}, {"handler", "self fail", "0 1"}, {"handler", "self self fail", "0 1 2"}, {"handler", "self pop fail", ""},
		{"handler", "jump", "0"}, {"function", "jump", "0"}, {"initializer", "jump", "0"}, {"handler", "self jump1", "0 1"}, {"handler", "self jump2 jump2", "0 1 1"}, {"handler", "self jump", ""},
		// The last instruction ends an entry, even if it is not reachable.
		{"handler", "end pop", ""}, {"handler", "end self", ""}, {"handler", "end false", ""}, {"handler", "end true", ""}, {"handler", "end case", ""}, {"handler", "end next", ""}, {"handler", "end send'x'", ""}, {"handler", "self false", ""}, {"handler", "end call1", ""},
		{"handler", "end jump", "0 -1"}, {"handler", "end stop", "0 -1"}, {"handler", "end fail", "0 -1"}, {"handler", "end end", "0 -1"}, {"initializer", "init init5", "0 -1"}, {"initializer", "init jump1", "0 -1"}, {"function", "const(int1) return return", "0 1 -1"}, {"function", "const(int1) return const(int1)", ""}, {"function", "jump return", "0 -1"},
		// Code that is not reachable needs no values.
		{"handler", "end pop binary20 with send/9'x' jump2", "0 -1 -1 -1 -1 -1"}, {"handler", "jump4 const(int1) const(int1) pop end", "0 -1 -1 -1 0"}, {"handler", "stop jump1", "0 -1"}, {"handler", "stop const(int1) jump1", "0 -1 -1"}, {"handler", "stop const(int1) const(int1) false1 end", "0 -1 -1 -1 -1"}, {"initializer", "init self self init1", "0 -1 -1 -1"},
		{"function", "const(int1) return pop return", "0 1 -1 -1"}, {"function", "const(int1) jump4 pop jump2 return", "0 1 -1 -1 1"},
		// Jumps.
		{"handler", "jump2 jump3 jump1 end", "0 0 0 0"}, {"handler", "const(int1) jump3 end pop jump2", "0 1 0 1 0"}, {"handler", "jump1 end", "0 0"}, {"handler", "const(int1) jump2 end", ""}, {"handler", "const(int1) pop jump", "0 1 0"}, {"handler", "const(int1) pop jump1", ""},
		{"handler", "const(int1) false2 end", "0 1 0"}, {"handler", "const(int1) true2 end", "0 1 0"}, {"handler", "const(int1) false end", "0 1 0"}, {"handler", "const(int1) false1 end", ""}, {"handler", "false1 end", ""}, {"handler", "true1 end", ""}, {"handler", "self self false3 pop end", "0 1 2 1 0"}, {"handler", "self self false4 pop end", ""},
		{"handler", "self self true4 pop stop", ""}, {"handler", "self self true5 pop end pop end", "0 1 2 1 0 1 0"}, {"handler", "self self false5 pop end pop end", "0 1 2 1 0 1 0"}, {"handler", "self false4 self jump5 self pop end", "0 1 0 1 0 1 0"}, {"handler", "self false4 self jump4 self pop end", ""}, {"handler", "self false4 self jump6 self pop end", ""},
		{"handler", "self case3/2 pop end", "0 1 1 0"}, {"handler", "self case3 pop end", ""}, {"handler", "self case/2 pop end", "0 1 1 0"}, {"handler", "self case/3 pop end", ""}, {"handler", "case/1 end", ""}, {"handler", "self case/4 bind end pop end", "0 1 1 0 1 0"}, {"handler", "self case/1 bind end", "0 1 1 0"}, {"handler", "self case bind end", ""}, {"handler", "self self case/3 binary20 pop end", "0 1 2 2 1 0"}, {"handler", "self pop case/1 end", ""},
		// Loops.
		{"handler", "self self next4 jump2 end", "0 1 2 2 0"}, {"handler", "self next3 jump1 end", ""}, {"handler", "next2 jump end", ""}, {"handler", "self self next3 end", ""}, {"handler", "self self next4 jump2 stop", "0 1 2 2 0"}, {"handler", "self self next3 jump2", ""}, {"handler", "self self self next5 jump3 pop end", "0 1 2 3 3 1 0"}, {"handler", "self self self next5 jump3 end", ""},
		{"handler", "self self next6 self pop jump2 end", "0 1 2 2 3 2 0"}, {"handler", "self self next5 self jump2 end", ""}, {"handler", "self self next5 pop jump2 end", ""}, {"handler", "self self next3 pop pop end", ""}, {"handler", "self self next5 pop pop end", "0 1 2 2 1 0"}, {"handler", "self self next10 self self next9 jump5 jump2 end end end", ""},
		{"handler", "self self next8 self self next7 jump5 jump2 end", "0 1 2 2 3 4 4 2 0"}, {"handler", "self self next8 self self next8 jump5 jump2 end", ""}, {"handler", "self self next jump2 end", "0 1 2 2 -1"},
		// Instructions that are reachable at two depths.
		{"handler", "self jump", ""}, {"handler", "self self false1 end", ""}, {"handler", "self self false3 end", ""}, {"handler", "self true3 self end", ""}, {"handler", "self true3 self pop end", ""}, {"handler", "self true4 self pop end", "0 1 0 1 0"}, {"handler", "self case/3 pop pop end", ""}, {"handler", "self self case/4 pop pop end", ""}, {"handler", "self true3 self stop", ""}, {"handler", "self true3 stop stop", "0 1 0 0"},
		{"function", "local false4 local jump5 local return", "0 1 0 1 0 1"}, {"function", "local false4 local jump4 local return", ""}, {"function", "local false5 local return local return", ""}, {"function", "local false4 local return local return", "0 1 0 1 0 1"}, {"function", "local local false1 return", "0 1 2 1"}, {"function", "local local false return", ""}, {"function", "local local false3 return", "0 1 2 1"}, {"function", "local local true3 return", "0 1 2 1"},
		{"initializer", "self self true3 init1", "0 1 2 1"}, {"initializer", "self true2 init1", ""}, {"initializer", "self true4 self init1 init", "0 1 0 1 0"}, {"initializer", "self true4 self init1 init1", ""}, {"initializer", "self true4 init init1 self init1", "0 1 0 -1 0 1"},
	} {
		c := within(row[0], row[1])
		want := ""
		if row[2] != "" {
			want = "0 1 0 1 0 " + row[2] + " 0"
			if row[0] == "function" {
				want = "0 1 0 1 " + row[2] + " 0 0"
			}
		}
		depths(t, c, want, row[0], ": ", row[1])
	}
}

// P14.2: targets lie in the region of their entry.
func TestTargets(t *testing.T) {
	for _, kind := range kinds() {
		filler := strings.Repeat(ender(kind)+" ", 2)
		c := within(kind, ender(kind)+" "+filler+ender(kind))
		at := start(kind)
		for _, op := range []int{comp.IJump, comp.IFalse, comp.ITrue, comp.ICase, comp.INext} {
			for _, to := range []int{at, at + 1, at + 2, at + 3, at - 1, at + 4, 0, -1, len(c.Ins) - 1, len(c.Ins), 1 << 40, -1 << 40} {
				i := api.Ins{Op: op, A: to}
				if op == comp.ICase {
					i = api.Ins{Op: op, B: to}
				}
				// The instruction is not reachable.
				c.Ins[at+1] = i
				right(t, c, at <= to && to < at+4 && (op != comp.INext || kind == "handler"), kind, " opcode ", op, " to ", to-at)
			}
		}
	}
	// An instruction that is reachable is its own target, the first one or the last one of the entry.
	for _, s := range []string{"jump", "self jump2 pop end", "self false end", "end"} {
		right(t, within("handler", s), true, s)
	}
	for _, s := range []string{"jump-1", "jump1", "self false3 end", "self false-1 end", "self case/3 pop end", "self case/-1 pop end", "self self next4 end", "self self next-1 end"} {
		right(t, within("handler", s), false, s)
	}
}
