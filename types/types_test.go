package types_test

import (
	"slices"
	"strings"
	"testing"

	"retroact/api"
	"retroact/syntax"
	"retroact/types"
)

func basic(kind int) api.Type { return api.Type{Kind: kind} }

func named(name string) api.Type { return api.Type{Kind: api.TyNamed, Name: name} }

func ref(name string) api.Type { return api.Type{Kind: api.TyRef, Name: name} }

func list(element api.Type) api.Type { return api.Type{Kind: api.TyList, Args: []api.Type{element}} }

// fun takes the types of the parameters and that of the result.
func fun(args ...api.Type) api.Type { return api.Type{Kind: api.TyFun, Args: args} }

var unit, boolean, integer, text = basic(api.TyUnit), basic(api.TyBool), basic(api.TyInt), basic(api.TyText)

func tree(kind int, word string, kids ...api.Node) api.Node {
	return api.Node{Kind: kind, Text: word, Kids: kids}
}

// denotation is a type, its form, and its node.
type denotation struct {
	t    api.Type
	form string
	node api.Node
}

// denotations contains each kind of type, at the top and within each kind that has arguments.
func denotations() []denotation {
	word := func(s string) api.Node { return tree(syntax.KTypeName, s) }
	l := []denotation{
		{unit, "unit", word("unit")},
		{boolean, "bool", word("bool")},
		{integer, "int", word("int")},
		{text, "text", word("text")},
		{named("P"), "P", word("P")},
		{named("Int"), "Int", word("Int")},
		{named("A_9z"), "A_9z", word("A_9z")},
		{named("Z"), "Z", word("Z")},
		{ref("Main"), "ref Main", tree(syntax.KTypeRef, "Main")},
		{ref("Text"), "ref Text", tree(syntax.KTypeRef, "Text")},
	}
	for _, x := range slices.Clone(l) {
		l = append(l,
			denotation{list(x.t), "[" + x.form + "]", tree(syntax.KTypeList, "", x.node)},
			denotation{fun(x.t), "fun(): " + x.form, tree(syntax.KTypeFun, "", x.node)})
	}
	for _, x := range slices.Clone(l) {
		l = append(l,
			denotation{list(list(x.t)), "[[" + x.form + "]]", tree(syntax.KTypeList, "", tree(syntax.KTypeList, "", x.node))},
			denotation{fun(x.t, integer), "fun(" + x.form + "): int", tree(syntax.KTypeFun, "", x.node, word("int"))},
			denotation{fun(text, x.t, fun(unit)), "fun(text, " + x.form + "): fun(): unit", tree(syntax.KTypeFun, "", word("text"), x.node, tree(syntax.KTypeFun, "", word("unit")))},
			denotation{fun(ref("A"), boolean, named("B"), x.t), "fun(ref A, bool, B): " + x.form, tree(syntax.KTypeFun, "", tree(syntax.KTypeRef, "A"), word("bool"), word("B"), x.node)},
			denotation{list(fun(x.t, x.t)), "[fun(" + x.form + "): " + x.form + "]", tree(syntax.KTypeList, "", tree(syntax.KTypeFun, "", x.node, x.node))})
	}
	return l
}

// P9.1, P9.2: each kind of type is formed, is read from its node, and is shown in its form.
func TestKindsOfTypes(t *testing.T) {
	for _, x := range denotations() {
		if !types.Formed(x.t) {
			t.Errorf("%s is not formed", x.form)
		}
		if got := types.Show(x.t); got != x.form {
			t.Errorf("%s is shown as %s", x.form, got)
		}
		if got, ok := types.Read(x.node); !ok || !types.Same(got, x.t) || !equal(got, x.t) {
			t.Errorf("%s is read as %v, %v", x.form, got, ok)
		}
	}
}

// P9.7, P9.1: the form of a type, parsed as the type of a parameter, yields that type.
func TestFormsParsed(t *testing.T) {
	for _, x := range denotations() {
		p := declared(t, "record P { } record Int { } record A_9z { } record Z { } record B { } actor Main() { } actor Text() { } actor A() { } fun f(x: "+types.Show(x.t)+"): int = 1")
		if got := p.Funs[0].Params[0].Type; !equal(got, x.t) {
			t.Errorf("%s is read back as %v", x.form, got)
		}
	}
}

// equal compares types by what is printed of them, in which nil and empty slices are alike.
func equal(a, b api.Type) bool { return printed(a) == printed(b) }

// unformed are types that are not formed for one reason each.
func unformed() []api.Type {
	l := []api.Type{
		{}, {Kind: -1}, {Kind: 9}, {Kind: 1 << 62}, {Kind: -1 << 63}, {Name: "A"}, {Args: []api.Type{integer}},
		{Kind: api.TyList}, {Kind: api.TyList, Args: []api.Type{}}, {Kind: api.TyList, Args: []api.Type{integer, integer}}, {Kind: api.TyList, Name: "A", Args: []api.Type{integer}},
		{Kind: api.TyList, Name: "int", Args: []api.Type{integer}},
		{Kind: api.TyFun}, {Kind: api.TyFun, Args: []api.Type{}}, {Kind: api.TyFun, Name: "A", Args: []api.Type{integer}}, {Kind: api.TyFun, Name: "f", Args: []api.Type{integer, integer}},
		{Kind: api.TyNamed, Name: "P", Args: []api.Type{integer}}, {Kind: api.TyRef, Name: "P", Args: []api.Type{integer}}, {Kind: api.TyRef, Name: "P", Args: []api.Type{named("P")}},
	}
	for kind := api.TyUnit; kind <= api.TyText; kind++ {
		l = append(l, api.Type{Kind: kind, Name: "A"}, api.Type{Kind: kind, Name: "int"}, api.Type{Kind: kind, Args: []api.Type{integer}}, api.Type{Kind: kind, Args: []api.Type{integer, integer}})
	}
	for _, name := range []string{
		"", " ", "a", "p", "z", "int", "bool", "text", "unit", "ref", "ref A", "self", "_", "_A", "0", "9A", "@", "[", "[A]", "`", "{", "(", "\"A\"", "/", "//A",
		" A", "A ", "A\n", "\nA", "A\x00", "A B", "A.B", "A,B", "A-B", "A//", "A:", "A[", "A@", "A`", "A{", "A/", "A\x80", "Ab!", "Ä", "A\u00e4", "\xc1", "P\xff",
	} {
		l = append(l, named(name), ref(name))
	}
	return l
}

// P9.1, P9.2, P9.3: a type that is not formed, at the top or within others, is neither shown nor right.
func TestUnformed(t *testing.T) {
	p := api.Prog{Types: []api.Decl{{Name: "A"}, {Name: "P"}, {}}, Actors: []api.Actor{{Name: "A"}, {Name: "P"}, {}}}
	for _, x := range unformed() {
		p.Types = append(p.Types, api.Decl{Name: x.Name})
		p.Actors = append(p.Actors, api.Actor{Name: x.Name})
		for _, y := range []api.Type{x, list(x), list(list(x)), fun(x), fun(x, integer), fun(integer, x), fun(integer, x, text), fun(text, list(x), unit), list(fun(named("A"), x)), fun(integer, fun(x, unit))} {
			if types.Formed(y) {
				t.Errorf("%v is formed", y)
			}
			if got := types.Show(y); got != "" {
				t.Errorf("%v is shown as %s", y, got)
			}
			if types.Right(p, y) {
				t.Errorf("%v is right", y)
			}
		}
	}
}

// P9.1: which single bytes may begin and continue the name of a formed type.
func TestNames(t *testing.T) {
	for c := range 256 {
		b := byte(c)
		upper := 'A' <= b && b <= 'Z'
		follows := upper || 'a' <= b && b <= 'z' || '0' <= b && b <= '9' || b == '_'
		for _, kind := range []int{api.TyNamed, api.TyRef} {
			for s, want := range map[string]bool{string([]byte{b}): upper, string([]byte{b, 'x'}): upper, string([]byte{'M', b}): follows, string([]byte{'M', b, '1'}): follows} {
				x := api.Type{Kind: kind, Name: s}
				if types.Formed(x) != want || types.Show(x) != "" != want {
					t.Errorf("%d %q: formed %v, shown as %q; want %v", kind, s, types.Formed(x), types.Show(x), want)
				}
			}
		}
	}
	long := "L" + strings.Repeat("o0_", 20000)
	if types.Show(named(long)) != long || types.Show(ref(long)) != "ref "+long {
		t.Error("a long name is not shown")
	}
}

// P9.1: nodes that are no types for one reason each, at the top and within others.
func TestUnread(t *testing.T) {
	word := func(s string) api.Node { return tree(syntax.KTypeName, s) }
	l := []api.Node{
		{}, {Text: "int"}, {Kind: -1, Text: "int"}, {Kind: 11, Text: "int"}, {Kind: 16, Text: "int"}, {Kind: 1 << 62, Text: "P"},
		word(""), word("x"), word("integer"), word("Int "), word("self"), word("ref"), word("ref A"), word("[int]"), word("fun(): int"), word("_"), word("P.Q"), word("\"P\""), word("1"), word("P\xff"),
		{Kind: syntax.KTypeName, Text: "int", N: 1}, {Kind: syntax.KTypeName, Text: "int", N: -1}, {Kind: syntax.KTypeName, Text: "P", N: 1}, {Kind: syntax.KTypeName, Text: "unit", N: -1 << 63},
		tree(syntax.KTypeName, "int", word("int")), tree(syntax.KTypeName, "P", word("int")), tree(syntax.KTypeName, "text", api.Node{}), tree(syntax.KTypeName, "bool", word("int"), word("int")),
		tree(syntax.KTypeList, ""), tree(syntax.KTypeList, "", word("int"), word("int")), tree(syntax.KTypeList, "A", word("int")), tree(syntax.KTypeList, "int", word("int")), tree(syntax.KTypeList, "["),
		{Kind: syntax.KTypeList, N: 1, Kids: []api.Node{word("int")}},
		tree(syntax.KTypeRef, ""), tree(syntax.KTypeRef, "int"), tree(syntax.KTypeRef, "a"), tree(syntax.KTypeRef, "ref"), tree(syntax.KTypeRef, "A B"), tree(syntax.KTypeRef, "A", word("A")), {Kind: syntax.KTypeRef, Text: "A", N: 1},
		tree(syntax.KTypeFun, ""), tree(syntax.KTypeFun, "f", word("int")), tree(syntax.KTypeFun, "F", word("int"), word("int")), tree(syntax.KTypeFun, "fun", word("int")), {Kind: syntax.KTypeFun, N: 1, Kids: []api.Node{word("int")}},
	}
	// Kids of other sorts: a kind that is not one of a type, with the rest as in a type.
	for kind := 0; kind <= 80; kind++ {
		if kind < syntax.KTypeName || kind > syntax.KTypeFun {
			l = append(l, tree(kind, "int"), tree(kind, "P"), tree(kind, "", word("int")), tree(kind, "x", word("int")))
		}
	}
	for _, x := range l {
		for _, n := range []api.Node{
			x, tree(syntax.KTypeList, "", x), tree(syntax.KTypeFun, "", x), tree(syntax.KTypeFun, "", x, word("int")), tree(syntax.KTypeFun, "", word("int"), x),
			tree(syntax.KTypeFun, "", word("int"), x, word("int")), tree(syntax.KTypeList, "", tree(syntax.KTypeList, "", x)), tree(syntax.KTypeFun, "", word("int"), tree(syntax.KTypeFun, "", x)),
		} {
			if got, ok := types.Read(n); ok || !equal(got, api.Type{}) {
				t.Errorf("%v is read as %v, %v", n, got, ok)
			}
		}
	}
}

// P9.1: nodes of all shapes are read exactly if layer 8 accepts them as the type of a field, and as the type whose form has that tree.
func TestReadAgainstGrammar(t *testing.T) {
	var shapes, kids []api.Node
	for kind := 0; kind <= 80; kind++ {
		for _, s := range []string{"", "int", "P", "x"} {
			for n := range 2 {
				x := api.Node{Kind: kind, Text: s, N: n}
				shapes = append(shapes, x)
				if slices.Contains([]int{0, 11, 12, 13, 14, 15, 16, 24}, kind) {
					kids = append(kids, x)
				}
			}
		}
	}
	word := tree(syntax.KTypeName, "int")
	kids = append(kids, tree(syntax.KTypeList, "", word), tree(syntax.KTypeFun, "", word), tree(syntax.KTypeFun, "", tree(syntax.KTypeRef, "A"), word), tree(syntax.KTypeList, "", tree(syntax.KTypeList, "", word)))
	groups := [][]api.Node{nil, {}}
	for _, x := range kids {
		groups = append(groups, []api.Node{x}, []api.Node{x, tree(syntax.KTypeName, "Q")}, []api.Node{word, x}, []api.Node{tree(syntax.KTypeRef, "A"), x, tree(syntax.KTypeName, "text")})
	}
	right := 0
	for _, x := range shapes {
		for k, group := range groups {
			n := api.Node{Kind: x.Kind, Text: x.Text, N: x.N, At: k, Kids: group}
			want := syntax.Right(tree(syntax.KProgram, "", tree(syntax.KRecord, "R", tree(syntax.KField, "x", n))))
			got, ok := types.Read(n)
			if ok != want {
				t.Fatalf("%v is read: %v; want %v", n, ok, want)
			}
			if !ok {
				continue
			}
			right++
			if again := parsed(t, "record R { x: "+types.Show(got)+" }").Kids[0].Kids[0].Kids[0]; !syntax.Same(again, n) {
				t.Fatalf("%v is read as %s", n, types.Show(got))
			}
		}
	}
	if right < 40 {
		t.Error("only", right, "nodes are right")
	}
}

// P9.1: the offsets of nodes do not matter.
func TestReadOffsets(t *testing.T) {
	n := tree(syntax.KTypeFun, "", tree(syntax.KTypeList, "", tree(syntax.KTypeName, "int")), tree(syntax.KTypeRef, "A"))
	for _, at := range []int{-1, 1, 1 << 62, -1 << 63} {
		n.At, n.Kids[0].At, n.Kids[0].Kids[0].At, n.Kids[1].At = at, at+1, at+2, at
		if got, ok := types.Read(n); !ok || !equal(got, fun(list(integer), ref("A"))) {
			t.Error(at, got, ok)
		}
	}
}

// samples are types, formed and not, any two of which differ.
func samples() []api.Type {
	base := []api.Type{{}, unit, boolean, integer, text, named("A"), named("B"), ref("A"), {Kind: api.TyInt, Name: "A"}, {Kind: 9, Name: "a"}, {Kind: -1}, {Name: "A"}, {Kind: api.TyList}, {Kind: api.TyFun}}
	l := slices.Clone(base)
	for _, x := range base {
		l = append(l, list(x), fun(x), fun(x, integer), fun(integer, text, x), api.Type{Kind: api.TyInt, Args: []api.Type{x}}, api.Type{Kind: api.TyFun, Name: "A", Args: []api.Type{x}}, list(fun(x, x)))
	}
	return append(l, fun(integer, integer, integer), fun(list(integer), integer, integer), fun(list(integer), integer), list(list(integer)), list(list(list(integer))))
}

// distinct drops the samples that are equal to an earlier one.
func distinct() []api.Type {
	var l []api.Type
	seen := map[string]bool{}
	for _, x := range samples() {
		if s := printed(x); !seen[s] {
			seen[s] = true
			l = append(l, x)
		}
	}
	return l
}

// P9.2: two types are the same exactly if all fields are equal.
func TestSame(t *testing.T) {
	l := distinct()
	for j, a := range l {
		for k, b := range l {
			if types.Same(a, b) != (j == k) {
				t.Errorf("%v and %v: same %v", a, b, j != k)
			}
		}
		if !types.Same(a, copied(a)) {
			t.Errorf("%v differs from its copy", a)
		}
	}
}

// P9.2: nil and empty Args are equal, at the top and within.
func TestSameEmpty(t *testing.T) {
	for _, x := range []api.Type{{}, integer, named("A"), ref("A"), {Kind: api.TyList}, {Kind: api.TyFun}, {Kind: 77, Name: "x"}} {
		y := x
		x.Args, y.Args = nil, []api.Type{}
		for _, f := range []func(x api.Type) api.Type{
			func(x api.Type) api.Type { return x }, list,
			func(x api.Type) api.Type { return fun(integer, x, text) }, func(x api.Type) api.Type { return list(list(x)) },
		} {
			if !types.Same(f(x), f(y)) || !types.Same(f(y), f(x)) {
				t.Errorf("%v differs with nil and empty Args", f(x))
			}
		}
		if types.Formed(x) != types.Formed(y) || types.Show(x) != types.Show(y) {
			t.Errorf("%v is formed or shown differently with nil and empty Args", x)
		}
	}
}

// P9.2: a type is storable exactly if no TyFun occurs in it, formed or not.
func TestStorable(t *testing.T) {
	for _, x := range samples() {
		if want := !strings.Contains(printed(x), "Kind:8 "); types.Storable(x) != want {
			t.Errorf("%v: storable %v", x, !want)
		}
	}
	for _, bottom := range []api.Type{fun(integer), {Kind: api.TyFun}, named("P"), {}} {
		want := bottom.Kind != api.TyFun
		deep, wide := bottom, bottom
		for range 100 {
			deep, wide = list(deep), api.Type{Kind: api.TyNamed, Name: "A", Args: []api.Type{integer, wide, text}}
			if types.Storable(deep) != want || types.Storable(wide) != want {
				t.Fatalf("%v: storable %v", deep, !want)
			}
		}
	}
	for _, x := range []api.Type{fun(integer), fun(integer, text), list(fun(unit)), list(list(fun(named("P"), unit)))} {
		if types.Storable(x) {
			t.Errorf("%s is storable", types.Show(x))
		}
	}
	for _, x := range []api.Type{unit, boolean, integer, text, named("P"), ref("A"), list(integer), list(list(ref("A"))), {}, {Kind: 9, Args: []api.Type{integer}}} {
		if !types.Storable(x) {
			t.Errorf("%v is not storable", x)
		}
	}
}

// lookups is a program whose names occur several times.
func lookups() api.Prog {
	ctors := func(l ...string) []api.Ctor {
		var found []api.Ctor
		for _, s := range l {
			found = append(found, api.Ctor{Name: s})
		}
		return found
	}
	return api.Prog{
		Types: []api.Decl{
			{Name: "P", Record: true, Ctors: ctors("P")}, {Name: "V", Ctors: ctors("A", "B", "A", "")}, {Name: "P", Ctors: ctors("C", "P", "B")},
			{Name: "W"}, {Name: "V", Record: true, Ctors: ctors("D", "C", "E", "E")}, {Name: "x y", Ctors: ctors("int", "x y")}, {Ctors: ctors("F")},
		},
		Effects: []api.Effect{{Name: "Pay"}},
		Funs:    []api.Fun{{Name: "Fun"}},
		Actors:  []api.Actor{{Name: "Main", On: []api.Handler{{Msg: "Go"}}}, {Name: "W"}, {Name: "Main"}, {Name: "Q"}, {Name: "W"}, {Name: "a b"}},
	}
}

// P9.3: the first element with a name is found, whatever the name, and no other sort of element.
func TestLookups(t *testing.T) {
	p := lookups()
	indices := func(find func(p api.Prog, name string) (int, bool), want map[string]int) {
		t.Helper()
		for _, name := range []string{"", "P", "V", "W", "A", "B", "C", "Main", "Q", "Pay", "Fun", "Go", "x y", "a b", "p", "P ", "int", "Mai", "Mainn"} {
			index, found := want[name]
			if k, ok := find(p, name); k != index || ok != found {
				t.Errorf("%q: %d, %v; want %d, %v", name, k, ok, index, found)
			}
			if k, ok := find(api.Prog{}, name); k != 0 || ok {
				t.Errorf("%q in the empty program: %d, %v", name, k, ok)
			}
		}
	}
	indices(types.Find, map[string]int{"P": 0, "V": 1, "W": 3, "x y": 5, "": 6})
	indices(types.Actor, map[string]int{"Main": 0, "W": 1, "Q": 3, "a b": 5})
	type place struct {
		owner string
		index int
	}
	want := map[string]place{"P": {"P", 0}, "A": {"V", 0}, "B": {"V", 1}, "": {"V", 3}, "C": {"P", 0}, "D": {"V", 0}, "E": {"V", 2}, "int": {"x y", 0}, "x y": {"x y", 1}, "F": {"", 0}}
	for _, name := range []string{"", "P", "V", "W", "A", "B", "C", "D", "E", "F", "G", "Main", "int", "x y", "a", "AB"} {
		x, found := want[name]
		if owner, k, ok := types.Ctor(p, name); owner != x.owner || k != x.index || ok != found {
			t.Errorf("%q: %q, %d, %v; want %v, %v", name, owner, k, ok, x, found)
		}
		if owner, k, ok := types.Ctor(api.Prog{}, name); owner != "" || k != 0 || ok {
			t.Errorf("%q in the empty program: %q, %d, %v", name, owner, k, ok)
		}
	}
}

// P9.3: a type is right if its names are declared, each as what it is used as, at all depths.
func TestRight(t *testing.T) {
	p := lookups()
	right := []api.Type{unit, boolean, integer, text, named("P"), named("V"), named("W"), ref("Main"), ref("W"), ref("Q")}
	wrong := []api.Type{named("Main"), named("Q"), named("A"), named("B"), named("Pay"), named("Fun"), named("Go"), named("X"), ref("P"), ref("V"), ref("A"), ref("Go"), ref("X"), ref("Pay"), named("x y"), ref("a b"), named(""), {}}
	for k, x := range append(slices.Clone(right), wrong...) {
		want := k < len(right)
		for _, y := range []api.Type{x, list(x), list(list(x)), fun(x), fun(x, integer), fun(integer, x), fun(integer, x, named("P")), fun(ref("W"), list(fun(list(x), unit)), text)} {
			if types.Right(p, y) != want {
				t.Errorf("%v: right %v", y, !want)
			}
		}
		if basic := x.Kind >= api.TyUnit && x.Kind <= api.TyText; types.Right(api.Prog{}, x) != basic {
			t.Errorf("%v in the empty program: right %v", x, !basic)
		}
	}
	if types.Right(p, fun(named("P"), named("X"))) || types.Right(p, fun(named("X"), named("P"))) || types.Right(p, fun(ref("X"), named("P"), ref("W"))) {
		t.Error("a type with a name that is not declared is right")
	}
	if !types.Right(p, fun(named("P"), ref("W"), named("W"), list(ref("Main")))) {
		t.Error("a type whose names are declared is not right")
	}
}

// P1: types and nodes with as many levels of nesting as are promised.
func TestDepth(t *testing.T) {
	x, n := integer, tree(syntax.KTypeName, "int")
	levels := 1<<16 - 1
	for range levels {
		x, n = list(x), tree(syntax.KTypeList, "", n)
	}
	if !types.Formed(x) || !types.Storable(x) || !types.Right(api.Prog{}, x) || !types.Same(x, copied(x)) {
		t.Error("a deep type is not formed, storable, right or the same as its copy")
	}
	if types.Show(x) != strings.Repeat("[", levels)+"int"+strings.Repeat("]", levels) {
		t.Error("a deep type is not shown")
	}
	if got, ok := types.Read(n); !ok || !types.Same(got, x) {
		t.Error("a deep type is not read")
	}
	if p, e, at := types.Decls(tree(syntax.KProgram, "", tree(syntax.KRecord, "R", tree(syntax.KField, "x", n)))); e != api.ErrArg || at != 0 || printed(p) != printed(api.Prog{}) {
		t.Error("a deep type in a tree", e, at)
	}
}

// P9.6: what is read shares nothing with the node or a second result, and the arguments are as before.
func TestTypesAreFresh(t *testing.T) {
	n := parsed(t, "record R { x: fun(int, [P], fun(): [int]): ref A }").Kids[0].Kids[0].Kids[0]
	before := printed(n)
	first, _ := types.Read(n)
	second, _ := types.Read(n)
	unshared(t, n, first, second)
	spoil(&first)
	if printed(n) != before || !equal(second, fun(integer, list(named("P")), fun(list(integer)), ref("A"))) {
		t.Error("a change of a result reaches", n, "or", second)
	}
	p := lookups()
	same, x := printed(p), printed(second)
	types.Formed(second)
	types.Show(second)
	types.Same(second, second)
	types.Storable(second)
	types.Right(p, second)
	types.Find(p, "V")
	types.Ctor(p, "E")
	types.Actor(p, "Q")
	if printed(p) != same || printed(second) != x {
		t.Error("an argument has changed")
	}
}
