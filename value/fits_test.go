package value_test

import (
	"fmt"
	"math"
	"slices"
	"strconv"
	"strings"
	"testing"

	"retroact/api"
	"retroact/syntax"
	"retroact/types"
	"retroact/value"
)

// typ returns the type of a form such as `[int]`.
func typ(form string) api.Type {
	n, e, at := syntax.Parse("effect e(): " + form)
	if e != api.OK {
		panic(fmt.Sprint(form, ": error ", e, " at ", at))
	}
	t, _ := types.Read(n.Kids[0].Kids[0])
	return t
}

// fields returns fields of the types of some forms.
func fields(forms ...string) []api.Field {
	var l []api.Field
	for k, form := range forms {
		l = append(l, api.Field{Name: "f" + strconv.Itoa(k), Type: typ(form)})
	}
	return l
}

// base returns the program that the tables use.
func base() api.Prog {
	return api.Prog{
		Types: []api.Decl{
			{Name: "P", Record: true, Ctors: []api.Ctor{{Name: "P", Fields: fields("int")}}},
			{Name: "E", Record: true, Ctors: []api.Ctor{{Name: "E"}}},
			{Name: "Q", Record: true, Ctors: []api.Ctor{{Name: "Q", Fields: fields("P", "[V]", "ref Main")}}},
			{Name: "V", Ctors: []api.Ctor{{Name: "A", Fields: fields("P")}, {Name: "B"}, {Name: "C", Fields: fields("int", "text")}}},
			{Name: "W", Ctors: []api.Ctor{{Name: "D", Fields: fields("W")}, {Name: "F"}}},
		},
		Funs: []api.Fun{
			{Name: "zero", Result: typ("int")},
			{Name: "inc", Params: fields("int"), Result: typ("int")},
			{Name: "both", Params: fields("int", "text"), Result: typ("bool")},
			{Name: "high", Params: fields("fun(int): int", "P"), Result: typ("V")},
			{Name: "make", Params: fields("int"), Result: typ("fun(text): bool")},
			{Params: fields("ref Main", "int"), Result: typ("ref Main")},
			{Name: "twice", Params: fields("int", "int", "int"), Result: typ("int")},
		},
		Actors: []api.Actor{{Name: "Main"}, {Name: "Other"}},
	}
}

// fits checks whether a value belongs to a type, alone, as the element of a list and by All, against the model, too.
func fits(t *testing.T, p api.Prog, v api.Value, x api.Type, want bool, message ...any) {
	t.Helper()
	ofList := api.Type{Kind: api.TyList, Args: []api.Type{x}}
	got := []bool{
		value.Fits(p, v, x), value.Fits(p, list(v), ofList), value.Fits(p, list(v, v), ofList), value.Fits(p, list(list(), list(v)), api.Type{Kind: api.TyList, Args: []api.Type{ofList}}),
		value.All(p, []api.Value{v}, []api.Field{{Type: x}}), value.All(p, []api.Value{unit(), v, integer(1)}, []api.Field{{Type: typ("unit")}, {Name: "x", Type: x}, {Type: typ("int")}}), modelFits(p, v, x),
	}
	// A value with as many nodes as possible is too large for a list.
	if value.Nodes(v) > 1000 {
		got = []bool{got[0], got[4], got[6]}
	}
	if slices.Contains(got, !want) {
		t.Errorf("%s belongs to %s: %v, want %v; %s", shortened(v), shortened(x), got, want, fmt.Sprint(message...))
	}
}

// belonging are values with the types to which they belong, out of those of someTypes.
var belonging = []struct {
	v     api.Value
	types string
}{
	{unit(), "unit"}, {truth(0), "bool"}, {truth(1), "bool"}, {integer(0), "int"}, {integer(-api.MaxNum), "int"}, {span(0, 1), "int"}, {span(-api.MaxNum, api.MaxNum), "int"}, {text(""), "text"}, {text("P"), "text"},
	{list(), "[unit]; [int]; [[int]]; [V]; [fun(): int]; [ref Main]; [P]; [[unit]]; [[[int]]]"}, {list(integer(1)), "[int]"}, {list(span(1, 2), integer(0), integer(1)), "[int]"}, {list(unit()), "[unit]"}, {list(unit(), unit()), "[unit]"},
	{list(list()), "[[int]]; [[unit]]; [[[int]]]"}, {list(list(integer(1)), list()), "[[int]]"}, {list(list(unit())), "[[unit]]"}, {list(list(), list(integer(1), truth(1))), ""}, {list(list(list())), "[[[int]]]"}, {list(integer(1), unit()), ""}, {list(unit(), integer(1)), ""}, {list(text("a")), ""}, {list(integer(1), list()), ""},
	{list(variant("V", 1), variant("V", 0, record("P", integer(1)))), "[V]"}, {list(variant("V", 1), variant("W", 1)), ""}, {list(closure(0)), "[fun(): int]"}, {list(reference("Main", "0"), reference("Main", "0.1")), "[ref Main]"}, {list(reference("Main", "0"), reference("Other", "0")), ""},
	{record("P", integer(1)), "P"}, {record("P", span(0, 9)), "P"}, {record("P"), ""}, {record("P", integer(1), integer(2)), ""}, {record("P", text("1")), ""}, {record("P", list(integer(1))), ""}, {record("P", record("P", integer(1))), ""}, {variant("P", 0, integer(1)), ""},
	{record("E"), "E"}, {record("E", unit()), ""}, {variant("E", 0), ""}, {record("Nope"), ""}, {record("Main"), ""}, {record("A", record("P", integer(1))), ""}, {reference("P", "0"), ""}, {reference("E", "0"), ""},
	{record("Q", record("P", integer(1)), list(), reference("Main", "0")), "Q"}, {record("Q", record("P", integer(1)), list(variant("V", 2, integer(1), text(""))), reference("Main", "0.1.2")), "Q"},
	{record("Q", record("P", text("")), list(), reference("Main", "0")), ""}, {record("Q", record("P", integer(1)), list(variant("V", 2, integer(1))), reference("Main", "0")), ""}, {record("Q", record("P", integer(1)), list(), reference("Other", "0")), ""}, {record("Q", list(), record("P", integer(1)), reference("Main", "0")), ""}, {record("Q", record("E"), list(), reference("Main", "0")), ""}, {record("Q", record("P", integer(1)), list()), ""},
	{variant("V", 0, record("P", integer(1))), "V"}, {variant("V", 0), ""}, {variant("V", 0, integer(1)), ""}, {variant("V", 0, record("P", integer(1)), unit()), ""}, {variant("V", 1), "V"}, {variant("V", 1, unit()), ""}, {variant("V", 2, integer(1), text("a")), "V"}, {variant("V", 2, span(1, 2), text("a")), "V"}, {variant("V", 2, text("a"), integer(1)), ""}, {variant("V", 2), ""}, {variant("V", 2, integer(1)), ""}, {variant("V", 3), ""}, {variant("V", 4), ""}, {variant("V", 4096), ""}, {record("V"), ""}, {record("V", record("P", integer(1))), ""},
	{variant("W", 1), "W"}, {variant("W", 0, variant("W", 1)), "W"}, {variant("W", 0, variant("W", 0, variant("W", 0, variant("W", 1)))), "W"}, {variant("W", 0, variant("V", 1)), ""}, {variant("W", 0, variant("W", 2)), ""}, {variant("W", 2), ""}, {variant("Nope", 0), ""}, {variant("D", 0), ""},
	{reference("Main", "0"), "ref Main"}, {reference("Main", "0.9007199254740992"), "ref Main"}, {reference("Other", "0"), "ref Other"}, {reference("Nope", "0"), ""},
	{closure(0), "fun(): int"}, {closure(0, integer(1)), ""}, {closure(1), "fun(int): int"}, {closure(1, integer(5)), "fun(): int"}, {closure(1, span(1, 2)), "fun(): int"}, {closure(1, text("")), ""}, {closure(1, integer(1), integer(2)), ""},
	{closure(2), "fun(int, text): bool"}, {closure(2, integer(1)), "fun(text): bool"}, {closure(2, integer(1), text("")), "fun(): bool"}, {closure(2, text("")), ""}, {closure(2, text(""), integer(1)), ""}, {closure(2, integer(1), integer(1)), ""}, {closure(2, integer(1), text(""), unit()), ""},
	{closure(3), "fun(fun(int): int, P): V"}, {closure(3, closure(1)), "fun(P): V"}, {closure(3, closure(0)), ""}, {closure(3, closure(6, integer(1), integer(2)), record("P", integer(1))), "fun(): V"}, {closure(3, closure(6, integer(1), integer(2)), record("P")), ""}, {closure(3, closure(6, integer(1), text(""))), ""},
	{closure(4), "fun(int): fun(text): bool"}, {closure(4, integer(1)), "fun(): fun(text): bool"}, {closure(5), "fun(ref Main, int): ref Main"}, {closure(5, reference("Main", "0")), "fun(int): ref Main"}, {closure(5, reference("Other", "0")), ""},
	{closure(6, integer(1), integer(2)), "fun(int): int"}, {closure(6, integer(1), integer(2), integer(3)), "fun(): int"}, {closure(6), ""}, {closure(7), ""}, {closure(8), ""}, {closure(7, integer(1)), ""}, {closure(api.MaxNum), ""},
}

var someTypes = strings.Split("unit; bool; int; text; [unit]; [int]; [[int]]; [V]; [fun(): int]; [ref Main]; P; E; Q; V; W; ref Main; ref Other; "+
	"fun(): int; fun(int): int; fun(int, text): bool; fun(text): bool; fun(): bool; fun(fun(int): int, P): V; fun(P): V; fun(): V; fun(int): fun(text): bool; fun(): fun(text): bool; fun(ref Main, int): ref Main; fun(int): ref Main; "+
	"fun(int): bool; fun(text, int): bool; fun(int, text): int; fun(int, int): int; fun(int, text, unit): bool; fun(int, text): text; fun(fun(int): int): V; fun(fun(int): text, P): V; fun(fun(): int, P): V; fun(int): fun(text): int; fun(ref Other, int): ref Main; fun(ref Main, int): ref Other; [P]; [[unit]]; [[[int]]]; fun(): unit", "; ")

// P12.4: each value of the table belongs to the types listed there, and to no others.
func TestFits(t *testing.T) {
	p := base()
	for _, x := range belonging {
		for _, form := range someTypes {
			want := slices.Contains(strings.Split(x.types, "; "), form)
			fits(t, p, x.v, typ(form), want, form)
		}
	}
}

// P12.4: no value belongs to a type that is not formed or not declared, at the top or within others.
func TestTypesNotValid(t *testing.T) {
	p := base()
	wrong := []api.Type{
		{}, {Kind: -1}, {Kind: 9}, {Kind: math.MinInt}, {Kind: math.MaxInt}, {Kind: api.TyList}, {Kind: api.TyList, Args: []api.Type{typ("int"), typ("int")}}, {Kind: api.TyList, Args: []api.Type{{}}}, {Kind: api.TyList, Name: "P", Args: []api.Type{typ("int")}},
		{Kind: api.TyFun}, {Kind: api.TyFun, Args: []api.Type{}}, {Kind: api.TyFun, Name: "f", Args: []api.Type{typ("int")}}, {Kind: api.TyNamed}, {Kind: api.TyNamed, Name: "p"}, {Kind: api.TyNamed, Name: "P", Args: []api.Type{typ("int")}}, {Kind: api.TyRef}, {Kind: api.TyRef, Name: "Main", Args: []api.Type{typ("int")}},
		typ("Nope"), typ("Main"), typ("A"), typ("ref Nope"), typ("ref P"), typ("ref V"), typ("[Nope]"), typ("[[ref P]]"), typ("[Main]"), typ("fun(): Nope"), typ("fun(Nope): int"), typ("fun(int): ref E"), typ("fun(int, [Main]): int"), typ("[fun(Nope): int]"),
	}
	for kind := api.TyUnit; kind <= api.TyText; kind++ {
		wrong = append(wrong, api.Type{Kind: kind, Name: "P"}, api.Type{Kind: kind, Name: "int"}, api.Type{Kind: kind, Args: []api.Type{typ("int")}})
	}
	for _, x := range wrong {
		for _, y := range belonging {
			fits(t, p, y.v, x, false)
		}
		for _, v := range []api.Value{list(), list(list()), {}, {Kind: math.MaxInt}, record("Nope"), variant("Nope", 0), record("Main"), reference("Nope", "0"), reference("P", "0"), record("p")} {
			fits(t, p, v, x, false)
			fits(t, p, v, api.Type{Kind: api.TyList, Args: []api.Type{x}}, false)
			fits(t, p, v, api.Type{Kind: api.TyFun, Args: []api.Type{x, typ("int")}}, false)
		}
	}
	// Functions whose types are those of the wrong type.
	for _, x := range wrong {
		q := base()
		q.Funs = append(q.Funs, api.Fun{Params: []api.Field{{Type: x}}, Result: x}, api.Fun{Result: x})
		fits(t, q, closure(len(p.Funs)), api.Type{Kind: api.TyFun, Args: []api.Type{x, x}}, false)
		fits(t, q, closure(len(p.Funs)+1), api.Type{Kind: api.TyFun, Args: []api.Type{x}}, false)
	}
}

// P12.4: no value that is not valid belongs to a type.
func TestInvalidValuesOfTypes(t *testing.T) {
	p := base()
	p.Types = append(p.Types, api.Decl{Name: "p", Record: true, Ctors: []api.Ctor{{Name: "p"}}})
	p.Actors = append(p.Actors, api.Actor{Name: "a"})
	for _, x := range []struct {
		v    api.Value
		form string
	}{
		{integer(api.MaxNum + 1), "int"}, {integer(math.MinInt), "int"}, {span(1, 1), "int"}, {span(2, 1), "int"}, {span(0, api.MaxNum+1), "int"}, {truth(2), "bool"}, {truth(-1), "bool"}, {api.Value{Kind: api.VUnit, N: 1}, "unit"}, {api.Value{Kind: api.VUnit, L: []api.Value{unit()}}, "unit"},
		{text(strings.Repeat("x", api.MaxText+1)), "text"}, {api.Value{Kind: api.VText, T: "P"}, "text"}, {list(many(api.MaxList+1, integer(1))...), "[int]"}, {api.Value{Kind: api.VList, N: 1}, "[int]"}, {list(integer(1), integer(1<<60)), "[int]"},
		{api.Value{Kind: api.VRec, T: "E", N: 1}, "E"}, {api.Value{Kind: api.VRec, T: "E", N: -1}, "E"}, {api.Value{Kind: api.VRec, T: "E", S: "E"}, "E"}, {record("P", integer(1<<60)), "P"}, {variant("V", -1), "V"}, {variant("V", math.MinInt), "V"}, {variant("V", math.MaxInt), "V"}, {api.Value{Kind: api.VVar, T: "V", N: 1, M: 1}, "V"},
		{reference("Main", ""), "ref Main"}, {reference("Main", "0.01"), "ref Main"}, {api.Value{Kind: api.VRef, T: "Main", S: "0", N: 1}, "ref Main"}, {closure(-1), "fun(): int"}, {closure(math.MinInt), "fun(): int"}, {closure(math.MaxInt), "fun(): int"}, {api.Value{Kind: api.VFun, M: 1}, "fun(): int"}, {closure(1, integer(1<<60)), "fun(): int"}, {closure(1, api.Value{}), "fun(): int"},
		{list(list(many(4095, integer(1))...), list(many(4095, integer(1))...), list(many(4095, integer(1))...), list(many(4095, integer(1))...)), "[[int]]"},
	} {
		fits(t, p, x.v, typ(x.form), false)
	}
	fits(t, p, list(list(many(4095, integer(1))...), list(many(4095, integer(1))...), list(many(4095, integer(1))...), list(many(4094, integer(1))...)), typ("[[int]]"), true)
	fits(t, p, list(many(api.MaxList, integer(1))...), typ("[int]"), true)
	fits(t, p, record("p"), api.Type{Kind: api.TyNamed, Name: "p"}, false)
	fits(t, p, reference("a", "0"), api.Type{Kind: api.TyRef, Name: "a"}, false)
}

// P12.4: the fields of a constructor and the captured parameters of a function have types that are valid in the program, even if no element of a list has to belong to them.
func TestFieldsNotValid(t *testing.T) {
	unformed := api.Type{Kind: api.TyList, Args: []api.Type{{Kind: api.TyInt, Name: "x"}}}
	for _, wrong := range []api.Type{typ("[Nope]"), typ("[ref Nope]"), typ("[[Main]]"), typ("[fun(): Nope]"), unformed} {
		p := base()
		p.Types = append(p.Types,
			api.Decl{Name: "R", Record: true, Ctors: []api.Ctor{{Name: "R", Fields: []api.Field{{Type: typ("int")}, {Type: wrong}}}}},
			api.Decl{Name: "U", Ctors: []api.Ctor{{Name: "I", Fields: []api.Field{{Type: wrong}}}, {Name: "J"}, {Name: "K", Fields: fields("R")}}})
		p.Funs = append(p.Funs, api.Fun{Params: []api.Field{{Type: wrong}}, Result: typ("int")})
		last := len(p.Funs) - 1
		fits(t, p, record("R", integer(1), list()), typ("R"), false)
		fits(t, p, variant("U", 0, list()), typ("U"), false)
		fits(t, p, variant("U", 1), typ("U"), true)
		fits(t, p, variant("U", 2, record("R", integer(1), list())), typ("U"), false)
		fits(t, p, closure(last, list()), typ("fun(): int"), false)
		fits(t, p, closure(last), api.Type{Kind: api.TyFun, Args: []api.Type{wrong, typ("int")}}, false)
		if value.All(p, []api.Value{list()}, []api.Field{{Type: wrong}}) || value.All(p, []api.Value{integer(1), list()}, []api.Field{{Type: typ("int")}, {Type: wrong}}) {
			t.Error("a field of a type that is not valid")
		}
	}
}

// P1, P12.4: programs that are not valid end no function, and the first declaration with a name is the one that counts.
func TestOtherPrograms(t *testing.T) {
	p := api.Prog{
		Types: []api.Decl{
			{Name: "R", Record: true}, {Name: "U"}, {Name: "X", Record: true, Ctors: []api.Ctor{{Name: "Other", Fields: fields("int")}}}, {Name: "X", Ctors: []api.Ctor{{Name: "Y"}}}, {Name: "Y", Ctors: []api.Ctor{{Name: "Z"}}}, {Name: "Y", Record: true, Ctors: []api.Ctor{{Name: "Y"}}}, {},
			{Name: "L", Record: true, Ctors: []api.Ctor{{Fields: fields("L")}}},
		},
		Funs:   []api.Fun{{}, {Params: make([]api.Field, 2)}},
		Actors: []api.Actor{{Name: "R"}, {}, {Name: "R"}},
	}
	for _, v := range append(valids(), record("R"), variant("R", 0), variant("U", 0), variant("U", 4096), record("U"), record("L"), record("L", record("L")), closure(1, unit(), unit())) {
		if value.Nodes(v) > 100 {
			continue
		}
		for _, form := range []string{"R", "U", "L", "[R]", "fun(): int", "fun(): unit", "fun(R): R"} {
			fits(t, p, v, typ(form), form == "[R]" && v.Kind == api.VList && len(v.L) == 0)
		}
		fits(t, api.Prog{}, v, typ("P"), false)
		fits(t, api.Prog{}, v, typ("V"), false)
		fits(t, api.Prog{}, v, typ("ref Main"), false)
		fits(t, api.Prog{}, v, typ("fun(): int"), false)
	}
	fits(t, p, record("X", integer(1)), typ("X"), true)
	fits(t, p, record("X"), typ("X"), false)
	fits(t, p, variant("X", 0), typ("X"), false)
	fits(t, p, variant("Y", 0), typ("Y"), true)
	fits(t, p, record("Y"), typ("Y"), false)
	fits(t, p, reference("R", "0"), typ("ref R"), true)
	fits(t, api.Prog{}, integer(1), typ("int"), true)
	fits(t, api.Prog{}, list(), typ("[[text]]"), true)
}

// P12.4: the index of a constructor is less than their number, and at most 4096.
func TestManyConstructors(t *testing.T) {
	for _, count := range []int{1, 2, 4096, 4097, 4098, 5000} {
		d := api.Decl{Name: "V"}
		for k := range count {
			d.Ctors = append(d.Ctors, api.Ctor{Name: "C" + strconv.Itoa(k)})
		}
		d.Ctors[count-1].Fields = fields("int")
		p := api.Prog{Types: []api.Decl{d}}
		for _, n := range []int{0, 1, count - 2, count - 1, count, count + 1, 4095, 4096, 4097} {
			v, other := variant("V", n, integer(1)), variant("V", n)
			if n != count-1 {
				v, other = other, v
			}
			fits(t, p, v, typ("V"), 0 <= n && n < count && n <= 4096, n, " of ", count)
			fits(t, p, other, typ("V"), false, n, " of ", count)
		}
	}
}

// P12.4: slices belong to fields of the same number, each value to the type at its index.
func TestAll(t *testing.T) {
	p := base()
	vs := []api.Value{integer(1), text("a"), list(integer(2)), record("P", integer(1)), closure(1), unit()}
	fs := fields("int", "text", "[int]", "P", "fun(int): int", "unit")
	for i := range len(vs) + 1 {
		for k := range len(fs) + 1 {
			if got := value.All(p, vs[:i], fs[:k]); got != (i == k) {
				t.Error(i, "values belong to", k, "fields:", got)
			}
		}
		if i == len(vs) {
			break
		}
		for _, wrong := range []api.Value{truth(0), {}, list(text("a")), record("E"), closure(0)} {
			other := slices.Clone(vs)
			other[i] = wrong
			if value.All(p, other, fs) {
				t.Errorf("%s belongs to field %d", shortened(wrong), i)
			}
		}
		for k := range i {
			other := slices.Clone(vs)
			other[i], other[k] = other[k], other[i]
			if value.All(p, other, fs) {
				t.Error(i, "and", k, "are exchanged")
			}
		}
	}
	for _, none := range [][]api.Value{nil, {}, vs[:0]} {
		if !value.All(p, none, nil) || !value.All(p, none, []api.Field{}) || value.All(p, none, fs[:1]) {
			t.Error("no values")
		}
	}
	// Each value may have as many nodes as a value can have.
	large := list(list(many(4095, unit())...), list(many(4095, unit())...), list(many(4095, unit())...), list(many(4094, unit())...))
	if !value.All(p, []api.Value{large, large}, fields("[[unit]]", "[[unit]]")) || value.All(p, []api.Value{large, list(large)}, fields("[[unit]]", "[[[unit]]]")) {
		t.Error("large values")
	}
}

// P12.4: values that programs have: those of compiled functions with captured variables, and deep ones.
func TestCompiled(t *testing.T) {
	p := compiled(t, `
record P { x: int }
variant W { D(W), F }
fun inc(n: int): fun(int): int = fun(x: int): int = x + n
fun both(p: P, w: W): fun(text): fun(): int = fun(t: text): fun(): int = fun(): int = p.x + size(t)
actor Main() { state f: int = 0 on Go(w: W) { let g = fun(k: int): ref Main = self } }`)
	found := 0
	for k, f := range p.Funs {
		var forms []string
		for _, param := range f.Params {
			forms = append(forms, types.Show(param.Type))
		}
		var captured []api.Value
		var form string
		switch strings.Join(forms, " ") + " " + types.Show(f.Result) {
		case "int int int":
			captured, form = []api.Value{integer(4)}, "fun(int): int"
		case "P W text fun(): int", "P text fun(): int":
			captured, form = []api.Value{record("P", integer(1)), variant("W", 1)}[:len(f.Params)-1], "fun(text): fun(): int"
		case "ref Main int ref Main":
			captured, form = []api.Value{reference("Main", "0")}, "fun(int): ref Main"
		default:
			continue
		}
		found++
		fits(t, p, closure(k, captured...), typ(form), true, form)
		fits(t, p, closure(k, captured[1:]...), typ(form), false, form)
		fits(t, p, closure(k+1, captured...), typ(form), false, form)
	}
	if found != 3 {
		t.Error("found", found, "closures")
	}
}

// P12.4: deep values of declared types and of list types.
func TestDeepFits(t *testing.T) {
	p := base()
	w := variant("W", 1)
	for range api.MaxValue - 1 {
		w = variant("W", 0, w)
	}
	if !value.Fits(p, w, typ("W")) || value.Fits(p, variant("W", 0, w), typ("W")) || value.Fits(p, w, typ("V")) {
		t.Error("a deep value of a declared type")
	}
	x, v := typ("int"), integer(1)
	for range 5000 {
		x, v = api.Type{Kind: api.TyList, Args: []api.Type{x}}, list(v)
	}
	if !value.Fits(p, v, x) || value.Fits(p, v.L[0], x) || value.Fits(p, list(v), x) {
		t.Error("a deep list")
	}
}
