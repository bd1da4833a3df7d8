package types_test

import (
	"math"
	"slices"
	"strconv"
	"strings"
	"testing"

	"retroact/api"
	"retroact/syntax"
	"retroact/types"
)

func field(name string, x api.Type) api.Field { return api.Field{Name: name, Type: x} }

// everything has each sort of declaration, member and policy. What the program consists of is in wholeProgram.
const everything = `
record Empty { }
effect ping(): unit
record Point { x: int, y: [[Shape]], who: ref W }
actor Main() { }
variant Shape { Circle(Point, int), None, Many([Shape], text, ref Main) }
fun f(s: Shape, g: fun(int, [text]): bool): ref Main = fun(x: int): int = x
actor W(start: int, to: ref Main) restart 3 {
	state total: int = start + 1
	on Add(n: int, l: [Shape]) { let k = n total = k if true { stop } else { } }
	state l: [Shape] = []
	on Get() { }
}
variant Shape2 { Other }
fun g(): fun(): fun(Point): unit = f
effect pay(to: text, cents: int, list: [Point]): [bool]
actor Once() restart 1 { on Main() { } }
actor Often(x: bool) restart 100 { state y: unit = () }
actor Up(x: Empty) escalate { on Add(x: Empty) { stop } }
`

func wholeProgram() api.Prog {
	return api.Prog{
		Types: []api.Decl{
			{Name: "Empty", Record: true, Ctors: []api.Ctor{{Name: "Empty"}}},
			{Name: "Point", Record: true, Ctors: []api.Ctor{{Name: "Point", Fields: []api.Field{field("x", integer), field("y", list(list(named("Shape")))), field("who", ref("W"))}}}},
			{Name: "Shape", Ctors: []api.Ctor{
				{Name: "Circle", Fields: []api.Field{field("", named("Point")), field("", integer)}},
				{Name: "None"},
				{Name: "Many", Fields: []api.Field{field("", list(named("Shape"))), field("", text), field("", ref("Main"))}},
			}},
			{Name: "Shape2", Ctors: []api.Ctor{{Name: "Other"}}},
		},
		Effects: []api.Effect{
			{Name: "ping", Answer: unit},
			{Name: "pay", Params: []api.Field{field("to", text), field("cents", integer), field("list", list(named("Point")))}, Answer: list(boolean)},
		},
		Funs: []api.Fun{
			{Name: "f", Params: []api.Field{field("s", named("Shape")), field("g", fun(integer, list(text), boolean))}, Result: ref("Main")},
			{Name: "g", Result: fun(fun(named("Point"), unit))},
		},
		Actors: []api.Actor{
			{Name: "Main"},
			{
				Name: "W", Params: []api.Field{field("start", integer), field("to", ref("Main"))},
				Vars:   []api.Var{{Name: "total", Type: integer}, {Name: "l", Type: list(named("Shape"))}},
				On:     []api.Handler{{Msg: "Add", Params: []api.Field{field("n", integer), field("l", list(named("Shape")))}}, {Msg: "Get"}},
				Policy: api.PoRestart, Most: 3,
			},
			{Name: "Once", On: []api.Handler{{Msg: "Main"}}, Policy: api.PoRestart, Most: 1},
			{Name: "Often", Params: []api.Field{field("x", boolean)}, Vars: []api.Var{{Name: "y", Type: unit}}, Policy: api.PoRestart, Most: 100},
			{Name: "Up", Params: []api.Field{field("x", named("Empty"))}, On: []api.Handler{{Msg: "Add", Params: []api.Field{field("x", named("Empty"))}}}, Policy: api.PoEscalate},
		},
	}
}

// P9.4: every field of a program with each sort of declaration, member and policy.
func TestDecls(t *testing.T) {
	if got, want := printed(declared(t, everything)), printed(wholeProgram()); got != want {
		t.Errorf("\n%s; want\n%s", got, want)
	}
	if got, want := printed(declared(t, "actor Main() { }")), printed(api.Prog{Actors: []api.Actor{{Name: "Main"}}}); got != want {
		t.Errorf("\n%s; want\n%s", got, want)
	}
	sound(t, wholeProgram())
}

// P9.4: changes between the declarations are skipped, whatever is wrong with them.
func TestChangesAreSkipped(t *testing.T) {
	changes := []string{
		"convert type Empty(x: Nowhere, x: fun(): int) = y",
		"convert type Shape.None(x: ref Nobody) = Circle",
		"convert actor W(n: [Nowhere], n: fun(): Empty) { n = 1, n = 2 }",
		"convert message W.Add(n: ref Empty, n: int) = init(fun(x: Nowhere): int = 1)",
		"convert message Main.init() = Main()",
		"move Main to 9007199254740992 move Main to 1",
		"drop Main drop Nobody drop Empty",
	}
	want := printed(wholeProgram())
	for _, change := range changes {
		for _, s := range []string{change + everything, everything + change, strings.ReplaceAll(everything, "actor", change+" actor"), strings.ReplaceAll(everything, "\nrecord", "\n"+change+" record")} {
			if got := printed(declared(t, s)); got != want {
				t.Errorf("%s\n%s; want\n%s", s, got, want)
			}
		}
		if _, e, at := types.Decls(parsed(t, change)); e != api.ErrNone || at != 0 {
			t.Errorf("%s: error %d at %d", change, e, at)
		}
	}
	all := strings.Join(changes, " ")
	if got := printed(declared(t, all+strings.ReplaceAll(everything, "\nactor", "\n"+all+"\nactor"))); got != want {
		t.Errorf("%s; want\n%s", got, want)
	}
}

// P9.4: the numbers of restarts that an actor may have, and what the other policies are.
func TestPolicies(t *testing.T) {
	for _, c := range []struct {
		policy string
		want   api.Actor
	}{
		{"", api.Actor{Policy: api.PoStop}}, {"escalate", api.Actor{Policy: api.PoEscalate}},
		{"restart 1", api.Actor{Policy: api.PoRestart, Most: 1}}, {"restart 2", api.Actor{Policy: api.PoRestart, Most: 2}},
		{"restart 99", api.Actor{Policy: api.PoRestart, Most: 99}}, {"restart 100", api.Actor{Policy: api.PoRestart, Most: 100}},
	} {
		c.want.Name = "Main"
		if got := declared(t, "actor Main() "+c.policy+" { }").Actors; printed(got) != printed([]api.Actor{c.want}) {
			t.Errorf("%s: %+v", c.policy, got)
		}
	}
}

// P9.4, P9.5: offsets neither matter for the program nor are they checked.
func TestOffsets(t *testing.T) {
	n := parsed(t, everything)
	var shift func(n *api.Node, by int)
	shift = func(n *api.Node, by int) {
		n.At = n.At*3 + by
		for k := range n.Kids {
			shift(&n.Kids[k], by-1)
		}
	}
	for _, by := range []int{-1, 5, math.MinInt, math.MaxInt} {
		shift(&n, by)
		if p, e, at := types.Decls(n); e != api.OK || at != 0 || printed(p) != printed(wholeProgram()) {
			t.Error("offsets matter:", e, at)
		}
	}
}

// P9.4, P9.7: names of all lengths, and many declarations, each of which needs the next one.
func TestLargePrograms(t *testing.T) {
	long := strings.Repeat("long_", 20000)
	n := tree(syntax.KProgram, "", tree(syntax.KRecord, "P"+long), tree(syntax.KActor, "Main"), tree(syntax.KFun, "f"+long, tree(syntax.KTypeName, "P"+long), tree(syntax.KUnit, "")))
	p, e, _ := types.Decls(n)
	if k, ok := types.Find(p, "P"+long); e != api.OK || !ok || k != 0 || p.Funs[0].Name != "f"+long || p.Funs[0].Result.Name != "P"+long {
		t.Error("long names", e)
	}
	const count = 20000
	name := func(k int) string { return "T" + strconv.Itoa(k) }
	records := []api.Node{tree(syntax.KActor, "Main")}
	for k := range count {
		next := name(k + 1)
		if k == count-1 {
			next = "int"
		}
		records = append(records, tree(syntax.KRecord, name(k), tree(syntax.KField, "x", tree(syntax.KTypeName, next))))
	}
	for range 2 {
		p, e, at := types.Decls(tree(syntax.KProgram, "", records...))
		if e != api.OK || len(p.Types) != count {
			t.Fatal(e, at, len(p.Types))
		}
		slices.Reverse(records)
	}
	records[count].Kids[0].Kids[0].Text, records[1].At = name(0), 7
	if _, e, at := types.Decls(tree(syntax.KProgram, "", records...)); e != api.ErrLoop || at != 7 {
		t.Error("a cycle of many types", e, at)
	}
}

// withRoom copies a tree so that each list of kids has an element beyond its length. It returns these lists, with that element.
func withRoom(n api.Node) (api.Node, [][]api.Node) {
	kids := append(slices.Clone(n.Kids), api.Node{Kind: -5, Text: "beyond"})
	lists := [][]api.Node{kids}
	for k := range n.Kids {
		kid, below := withRoom(n.Kids[k])
		kids[k] = kid
		lists = append(lists, below...)
	}
	n.Kids = kids[:len(n.Kids)]
	return n, lists
}

// P9.6: Decls changes nothing of its argument, and what it returns shares nothing with it, with a second result or within itself.
func TestDeclsIsFresh(t *testing.T) {
	for _, s := range []string{everything, "record P { x: [int], x: int }", "record P { x: fun(): int }", "record P { p: P }", ""} {
		n, lists := withRoom(parsed(t, s))
		before := printed(n)
		first, e, at := types.Decls(n)
		second, e2, at2 := types.Decls(n)
		if e != e2 || at != at2 || printed(first) != printed(second) {
			t.Error("a second call has another result")
		}
		want := printed(second)
		unshared(t, n, first, second)
		spoil(&first)
		if printed(n) != before || printed(second) != want {
			t.Error("a change of a result reaches the argument or another result")
		}
		for _, l := range lists {
			if x := l[len(l)-1]; x.Kind != -5 || x.Text != "beyond" || x.N != 0 || x.At != 0 || x.Kids != nil {
				t.Error("an element beyond the length has changed")
			}
		}
		spoil(&n)
		if printed(second) != want {
			t.Error("a change of the argument reaches a result")
		}
	}
}
