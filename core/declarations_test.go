package core_test

import (
	"math"
	"strconv"
	"strings"
	"testing"

	"retroact/api"
	"retroact/core"
)

// change is a change of the program base, and whether the program is valid behind it.
type change struct {
	name string
	want bool
	f    func(p *api.Prog)
}

// checkChanges makes each change in a program of its own.
func checkChanges(t *testing.T, l []change) {
	t.Helper()
	for _, c := range l {
		p := base()
		c.f(&p)
		right(t, p, c.want, c.name)
	}
}

// badNames are names that neither upper nor lower names are.
func badNames() []string {
	return []string{"", " ", "_", "_a", "_A", "0", "9a", "9A", "@", "[", "`", "{", "/", ":", "a b", "A B", "a.b", "A.B", "a-b", "A-B", "a\n", "A\n", "\na", "\nA", " a", " A", "a ", "A ", "a\x00", "A\x00", "ä", "Ä", "aä", "Aä", "a\xff", "A\xff", "a@", "a[", "a`", "a{", "a/", "a:", "A@", "A[", "A`", "A{", "A/", "A:"}
}

func lowerNames() []string {
	return []string{"a", "z", "x9", "aB_c", "a__", "zZ09_", "recordx", "unit_", "convert", "type", "message", "move", "to", "drop", "init", "main", "p", strings.Repeat("long_", 1000)}
}

func upperNames() []string {
	return []string{"Z", "X9", "ABc", "Q_", "Record", "Self", "Init", "Len", "Unit", strings.Repeat("Long_", 1000)}
}

func reserved() []string { return strings.Fields(reservedWords) }

func primitives() []string { return strings.Fields(primitiveWords) }

// someName is a name, and whether it is one of the sort that a place needs.
type someName struct {
	name string
	want bool
}

// names are those for a place that needs names of one sort, and takes some words or not.
func names(right, wrong []string, words map[string]bool) []someName {
	var l []someName
	for _, s := range right {
		l = append(l, someName{s, true})
	}
	for _, s := range append(badNames(), wrong...) {
		l = append(l, someName{s, false})
	}
	for s, want := range words {
		l = append(l, someName{s, want})
	}
	return l
}

// wordsAs says whether the reserved words and the names of primitive functions are names for a place.
func wordsAs(reservedToo, primitivesToo, self bool) map[string]bool {
	m := map[string]bool{}
	for _, s := range reserved() {
		m[s] = reservedToo
	}
	for _, s := range primitives() {
		m[s] = primitivesToo
	}
	m["self"] = self
	return m
}

// P11.1: which strings may be names, in each place that has a name.
func TestNames(t *testing.T) {
	if len(reserved()) != 34 || len(primitives()) != 7 {
		t.Fatal(len(reserved()), "reserved words,", len(primitives()), "primitive functions")
	}
	lower := names(lowerNames(), upperNames(), wordsAs(false, true, false))
	upper := names(upperNames(), append(lowerNames(), reserved()...), nil)
	function := names(lowerNames(), upperNames(), wordsAs(false, false, false))
	param := names(lowerNames(), upperNames(), wordsAs(false, true, true))
	for _, c := range []struct {
		place string
		names []someName
		put   func(p *api.Prog, name string)
	}{
		{"record", upper, func(p *api.Prog, name string) {
			p.Types[1] = api.Decl{Name: name, Record: true, Ctors: []api.Ctor{{Name: name}}}
		}},
		{"variant", upper, func(p *api.Prog, name string) { p.Types[4].Name = name }},
		{"constructor", upper, func(p *api.Prog, name string) { p.Types[3].Ctors[1].Name = name }},
		{"field", lower, func(p *api.Prog, name string) { p.Types[2].Ctors[0].Fields[0].Name = name }},
		{"effect", lower, func(p *api.Prog, name string) { p.Effects[1].Name = name }},
		{"parameter of an effect", lower, func(p *api.Prog, name string) { p.Effects[2].Params[0].Name = name }},
		{"function", function, func(p *api.Prog, name string) { p.Funs[1].Name = name }},
		{"parameter of a function", param, func(p *api.Prog, name string) { p.Funs[1].Params[0].Name = name }},
		{"parameter of a closure", param, func(p *api.Prog, name string) { p.Funs[3].Params[0].Name = name }},
		{"actor", upper, func(p *api.Prog, name string) { p.Actors[1].Name = name }},
		{"parameter of an actor", lower, func(p *api.Prog, name string) { p.Actors[1].Params[1].Name = name }},
		{"state variable", lower, func(p *api.Prog, name string) { p.Actors[0].Vars[1].Name = name }},
		{"message", upper, func(p *api.Prog, name string) { p.Actors[0].On[1].Msg = name }},
		{"parameter of a handler", lower, func(p *api.Prog, name string) { p.Actors[0].On[1].Params[0].Name = name }},
	} {
		for _, n := range c.names {
			want := n.want
			if n.name == "" && c.place == "function" {
				// A closure has no name.
				want = true
			}
			p := base()
			c.put(&p, n.name)
			right(t, p, want, c.place, " ", strconv.Quote(n.name))
		}
	}
}

// P11.1: the conditions on declared types.
func TestTypes(t *testing.T) {
	set := func(form string) func(p *api.Prog) {
		return func(p *api.Prog) { p.Types[2].Ctors[0].Fields[1].Type = typ(form) }
	}
	alternative := func(form string) func(p *api.Prog) {
		return func(p *api.Prog) { p.Types[4].Ctors[0].Fields = fields("", form) }
	}
	add := func(l ...api.Decl) func(p *api.Prog) {
		return func(p *api.Prog) { p.Types = append(p.Types, l...) }
	}
	record := func(name string, l ...string) api.Decl {
		return api.Decl{Name: name, Record: true, Ctors: []api.Ctor{{Name: name, Fields: fields(l...)}}}
	}
	variant := func(name string, l ...api.Ctor) api.Decl { return api.Decl{Name: name, Ctors: l} }
	ctor := func(name string, l ...string) api.Ctor {
		c := api.Ctor{Name: name}
		for _, form := range l {
			c.Fields = append(c.Fields, field("", form))
		}
		return c
	}
	checkChanges(t, []change{
		{"base", true, func(p *api.Prog) {}}, {"no types", false, func(p *api.Prog) { p.Types = nil }},
		{"a second record of the name", false, add(record("P"))}, {"a second variant of the name", false, add(variant("V", ctor("X")))}, {"a record with the name of a variant", false, add(record("V"))}, {"a variant with the name of a record", false, add(variant("P", ctor("X")))},
		{"a record with the name of an actor", false, add(record("W"))}, {"a variant with the name of an actor", false, add(variant("Main", ctor("X")))}, {"a record with the name of a constructor", false, add(record("A"))}, {"a variant with the name of a constructor", true, add(variant("A", ctor("X")))},
		{"a constructor with the name of a record", false, add(variant("X", ctor("P")))}, {"a constructor with the name of its variant", true, add(variant("X", ctor("X")))}, {"a constructor with the name of another variant", true, add(variant("X", ctor("V")))}, {"a constructor with the name of an actor", true, add(variant("X", ctor("Main")))}, {"a constructor of another variant", false, add(variant("X", ctor("C")))}, {"a constructor twice", false, add(variant("X", ctor("Y"), ctor("Z"), ctor("Y")))},
		{"names that differ in case", true, add(record("MAIN"), variant("MaIN", ctor("Cc"), ctor("CC")))},
		{"a record without a constructor", false, add(api.Decl{Name: "X", Record: true})}, {"a record with another constructor", false, add(api.Decl{Name: "X", Record: true, Ctors: []api.Ctor{{Name: "Y"}}})}, {"a record with two constructors", false, add(api.Decl{Name: "X", Record: true, Ctors: []api.Ctor{{Name: "X"}, {Name: "Y"}}})},
		{"a variant without a constructor", false, add(variant("X"))}, {"a variant with a named field", false, add(variant("X", api.Ctor{Name: "Y", Fields: fields("a", "int")}))}, {"a variant with a second named field", false, add(variant("X", api.Ctor{Name: "Y", Fields: fields("", "int", "a", "int")}))},
		{"a record with a field twice", false, add(record("X", "a", "int", "b", "int", "a", "text"))}, {"a record with a field without a name", false, add(record("X", "", "int"))}, {"records with the same fields", true, add(record("X", "x", "int", "y", "int"))}, {"a record with the names of functions, effects and parameters", true, add(record("X", "f", "int", "pay", "int", "len", "int", "n", "int"))},
		{"a type that is not declared", false, set("Nope")}, {"an actor as a type", false, set("Main")}, {"a constructor as a type", false, set("A")}, {"a reference to no actor", false, set("ref Nope")}, {"a reference to a type", false, set("ref P")}, {"a function", false, set("fun(): int")}, {"a list of functions", false, set("[fun(int): int]")}, {"a list of lists of types that are not declared", false, set("[[Nope]]")},
		{"no type", false, func(p *api.Prog) { p.Types[0].Ctors[0].Fields[0].Type = api.Type{} }}, {"a type that is not formed", false, func(p *api.Prog) { p.Types[0].Ctors[0].Fields[0].Type.Name = "P" }}, {"a list of nothing", false, func(p *api.Prog) { p.Types[0].Ctors[0].Fields[1].Type.Args = nil }}, {"a kind that is none", false, func(p *api.Prog) { p.Types[0].Ctors[0].Fields[1].Type.Kind = 9 }},
		{"each other type", true, add(record("X", "a", "unit", "b", "bool", "c", "text", "d", "[[text]]", "e", "ref W", "f", "V", "g", "[[N]]", "h", "[ref Main]"))},
		{"an alternative of a type that is not declared", false, alternative("Nope")}, {"an alternative with a function", false, alternative("fun(): int")}, {"an alternative with a list of functions", false, alternative("[fun(): int]")}, {"an alternative with a reference to no actor", false, alternative("ref P")}, {"an alternative with a type declared before", true, func(p *api.Prog) { alternative("N")(p); p.Funs[0].Body = expr("int1") }},
		{"a record in itself", false, add(record("X", "x", "X"))}, {"a record in a list in itself", true, add(record("X", "x", "[X]"))}, {"a record beside a list of itself", false, add(record("X", "x", "[X]", "y", "X"))}, {"a variant in itself", false, add(variant("X", ctor("Y", "X")))}, {"a variant in itself beside an alternative", true, add(variant("X", ctor("Y", "X"), ctor("Z")))},
		{"a variant in itself behind an alternative", true, add(variant("X", ctor("Z", "int"), ctor("Y", "X", "X")))}, {"a variant that needs itself in each alternative", false, add(variant("X", ctor("Z", "int", "X"), ctor("Y", "X", "X")))},
		{"two records in each other", false, add(record("X", "x", "Y"), record("Y", "y", "X"))}, {"two records in each other through a list", true, add(record("X", "x", "Y"), record("Y", "y", "[X]"))}, {"a record and a variant in each other", false, add(record("X", "x", "Y"), variant("Y", ctor("Y1", "X")))}, {"a record and a variant in each other with an end", true, add(record("X", "x", "Y"), variant("Y", ctor("Y1", "X"), ctor("Y2")))},
		{"a chain of types that ends", true, add(record("X1", "x", "X2"), record("X2", "x", "X3", "y", "X4"), record("X3", "x", "X4"), variant("X4", ctor("X5", "X1"), ctor("X6", "P")))}, {"a chain of types that does not end", false, add(record("X1", "x", "X2"), record("X2", "x", "X3", "y", "X4"), record("X3", "x", "X4"), variant("X4", ctor("X5", "X1"), ctor("X6", "P", "X3")))},
		{"a type that is finite beside one that is not", false, add(record("X", "x", "P"), record("Y", "y", "Y"))}, {"a reference to an actor with the type", true, add(record("X", "x", "ref Main"))}, {"a type with the same part twice", true, add(variant("X", ctor("Y", "P", "P", "V", "P")))},
	})
}

// P11.1: the conditions on effects.
func TestEffects(t *testing.T) {
	checkChanges(t, []change{
		{"twice the same name", false, func(p *api.Prog) { p.Effects = append(p.Effects, p.Effects[1]) }}, {"the name of a function", true, func(p *api.Prog) { p.Effects[0].Name = "f" }}, {"the name of a primitive function", true, func(p *api.Prog) { p.Effects[0].Name = "len" }},
		{"a parameter twice", false, func(p *api.Prog) { p.Effects[0].Params[1].Name = "a" }}, {"the parameters of another effect", true, func(p *api.Prog) { p.Effects[2].Params[0].Name = "a" }}, {"self as a parameter", false, func(p *api.Prog) { p.Effects[0].Params[0].Name = "self" }}, {"a parameter without a name", false, func(p *api.Prog) { p.Effects[0].Params[0].Name = "" }},
		{"an undeclared parameter", false, func(p *api.Prog) { p.Effects[0].Params[0].Type = typ("Nope") }}, {"a parameter of no type", false, func(p *api.Prog) { p.Effects[0].Params[0].Type = api.Type{} }}, {"a function as a parameter", false, func(p *api.Prog) { p.Effects[0].Params[0].Type = typ("fun(): int") }}, {"functions in a parameter", false, func(p *api.Prog) { p.Effects[0].Params[1].Type = typ("[[fun(): int]]") }}, {"a reference to no actor", false, func(p *api.Prog) { p.Effects[0].Params[1].Type = typ("ref V") }},
		{"an undeclared answer", false, func(p *api.Prog) { p.Effects[0].Answer = typ("Nope") }}, {"no answer", false, func(p *api.Prog) { p.Effects[0].Answer = api.Type{} }}, {"a function as an answer", false, func(p *api.Prog) { p.Effects[0].Answer = typ("fun(): int") }}, {"a list of functions as an answer", false, func(p *api.Prog) { p.Effects[0].Answer = typ("[fun(): int]") }}, {"an actor as an answer", false, func(p *api.Prog) { p.Effects[0].Answer = typ("Main") }}, {"another answer", true, func(p *api.Prog) { p.Effects[0].Answer = typ("[[ref Main]]") }},
		{"no effects", true, func(p *api.Prog) { p.Effects = nil }},
	})
}

// P11.1: the conditions on functions.
func TestFunctions(t *testing.T) {
	add := func(f api.Fun) func(p *api.Prog) { return func(p *api.Prog) { p.Funs = append(p.Funs, f) } }
	checkChanges(t, []change{
		{"twice the same name", false, add(api.Fun{Name: "zero", Result: typ("int"), Body: expr("int1")})}, {"twice no name", true, add(api.Fun{Result: typ("int"), Body: expr("int1")})}, {"the name of an effect", true, add(api.Fun{Name: "pay", Result: typ("int"), Body: expr("int1")})},
		{"a parameter twice", false, func(p *api.Prog) { p.Funs[3].Params[2].Name = "k" }}, {"self twice", false, func(p *api.Prog) { p.Funs[3].Params[2].Name = "self" }}, {"self as the last parameter", true, func(p *api.Prog) { p.Funs[1].Params[1].Name = "self" }}, {"a parameter without a name", false, func(p *api.Prog) { p.Funs[0].Params[0].Name = "" }}, {"a parameter with the name of its function", true, func(p *api.Prog) { p.Funs[0].Params[0].Name = "f" }}, {"a parameter with the name of a primitive function", true, func(p *api.Prog) { p.Funs[0].Params[0].Name = "len" }},
		{"an undeclared parameter", false, func(p *api.Prog) { p.Funs[3].Params[1].Type = typ("Nope") }}, {"an undeclared type in a function", false, func(p *api.Prog) { p.Funs[3].Params[1].Type = typ("fun(Nope): int") }}, {"an undeclared result in a function", false, func(p *api.Prog) { p.Funs[3].Params[1].Type = typ("fun(int): [Nope]") }}, {"a parameter of no type", false, func(p *api.Prog) { p.Funs[3].Params[1].Type = api.Type{} }}, {"a function without a result as a parameter", false, func(p *api.Prog) { p.Funs[3].Params[1].Type = api.Type{Kind: api.TyFun} }},
		{"a function as a parameter", true, func(p *api.Prog) { p.Funs[3].Params[1].Type = typ("[fun(fun(P): V): ref W]") }}, {"a result that is not declared", false, add(api.Fun{Result: typ("[Nope]"), Body: expr("list")})}, {"no result", false, add(api.Fun{Body: expr("unit")})}, {"a result that is not formed", false, add(api.Fun{Result: api.Type{Kind: api.TyList}, Body: expr("list")})}, {"a function as a result", true, add(api.Fun{Result: typ("[fun(): int]"), Body: expr("list(fun0(int1))")})},
		{"a body of another type", false, add(api.Fun{Result: typ("int"), Body: expr("text")})}, {"no body", false, add(api.Fun{Result: typ("unit")})}, {"a body for which the result is needed", true, add(api.Fun{Result: typ("[int]"), Body: expr("list")})}, {"self in the body", false, add(api.Fun{Result: typ("ref Main"), Body: expr("self")})}, {"a state variable in the body", false, add(api.Fun{Result: typ("int"), Body: expr("state0")})},
		{"a call of itself", true, add(api.Fun{Result: typ("int"), Body: expr("call5")})}, {"no functions", false, func(p *api.Prog) { p.Funs = nil; p.Actors[0].Vars[0].Init = expr("call0(int1)") }}, {"no functions that are used", true, func(p *api.Prog) { p.Funs = nil }},
	})
	for _, c := range []struct {
		params, slots int
		want          bool
	}{{0, 0, true}, {0, -1, false}, {0, 1, true}, {0, 32768, true}, {0, 32769, false}, {0, math.MaxInt, false}, {0, math.MinInt, false}, {1, 0, false}, {1, 1, true}, {3, 2, false}, {3, 3, true}, {3, 4, true}, {3, -3, false}, {3, 32768, true}, {3, 32769, false}, {32768, 32768, true}, {32768, 32767, false}, {32769, 32769, false}, {32769, 32768, false}} {
		var params []api.Field
		for k := range c.params {
			params = append(params, api.Field{Name: "p" + strconv.Itoa(k), Type: typ("int")})
		}
		for place, put := range map[string]func(p *api.Prog){
			"function": add(api.Fun{Params: params, Result: typ("int"), Slots: c.slots, Body: expr("int1")}),
			"actor":    func(p *api.Prog) { p.Actors = append(p.Actors, api.Actor{Name: "X", Params: params, Slots: c.slots}) },
			"handler": func(p *api.Prog) {
				p.Actors[0].On = append(p.Actors[0].On, api.Handler{Msg: "X", Params: params, Slots: c.slots})
			},
		} {
			p := base()
			put(&p)
			right(t, p, c.want, place, " with ", c.params, " parameters and ", c.slots, " slots")
		}
	}
}

// P11.1: the conditions on actor types.
func TestActors(t *testing.T) {
	main := func(f func(a *api.Actor)) func(p *api.Prog) { return func(p *api.Prog) { f(&p.Actors[0]) } }
	work := func(f func(a *api.Actor)) func(p *api.Prog) { return func(p *api.Prog) { f(&p.Actors[1]) } }
	checkChanges(t, []change{
		{"no actors", false, func(p *api.Prog) { p.Actors = nil }}, {"no Main", false, func(p *api.Prog) { p.Actors = p.Actors[1:] }}, {"main", false, func(p *api.Prog) { p.Actors[0].Name = "main" }}, {"nothing but Main", true, func(p *api.Prog) { *p = api.Prog{Actors: []api.Actor{{Name: "Main"}}} }}, {"nothing", false, func(p *api.Prog) { *p = api.Prog{} }}, {"Main as a type", false, func(p *api.Prog) {
			*p = api.Prog{Types: []api.Decl{{Name: "Main", Record: true, Ctors: []api.Ctor{{Name: "Main"}}}}}
		}},
		{"Main with a parameter", false, main(func(a *api.Actor) { a.Params, a.Slots = fields("a", "int"), 1 })}, {"Main behind another actor", true, func(p *api.Prog) { p.Actors[0], p.Actors[1] = p.Actors[1], p.Actors[0] }}, {"two Mains", false, func(p *api.Prog) { p.Actors = append(p.Actors, api.Actor{Name: "Main"}) }}, {"twice the same name", false, func(p *api.Prog) { p.Actors = append(p.Actors, api.Actor{Name: "W"}) }},
		{"a parameter twice", false, work(func(a *api.Actor) { a.Params[1].Name = "k" })}, {"self as a parameter", false, work(func(a *api.Actor) { a.Params[1].Name = "self" })}, {"a variable twice", false, main(func(a *api.Actor) { a.Vars[2].Name = "n" })}, {"a variable with the name of a parameter", true, work(func(a *api.Actor) { a.Vars[0].Name = "m" })}, {"self as a variable", false, main(func(a *api.Actor) { a.Vars[2].Name = "self" })},
		{"a parameter of a handler twice", false, main(func(a *api.Actor) { a.On[1].Params[1].Name = "b" })}, {"self as a parameter of a handler", false, main(func(a *api.Actor) { a.On[1].Params[1].Name = "self" })}, {"a parameter of a handler with the name of a variable", true, work(func(a *api.Actor) { a.On[0].Params[1].Name = "k" })}, {"a message twice", false, main(func(a *api.Actor) { a.On[2].Msg = "Ok" })}, {"a message with the name of the actor", true, main(func(a *api.Actor) { a.On[2].Msg = "Main" })}, {"a message with the name of a type", true, main(func(a *api.Actor) { a.On[2].Msg = "P" })}, {"the messages of another actor", true, main(func(a *api.Actor) { a.On[2].Msg = "Do" })},
		{"an undeclared parameter", false, work(func(a *api.Actor) { a.Params[1].Type = typ("Nope") })}, {"a function as a parameter", false, work(func(a *api.Actor) { a.Params[1].Type = typ("fun(): int") })}, {"a parameter of no type", false, work(func(a *api.Actor) { a.Params[1].Type = api.Type{} })}, {"a list of functions as a parameter", false, work(func(a *api.Actor) { a.Params[1].Type = typ("[fun(): int]") })},
		{"an undeclared variable", false, main(func(a *api.Actor) { a.Vars[1].Type = typ("[Nope]") })}, {"a function as a variable", false, main(func(a *api.Actor) { a.Vars[1] = api.Var{Name: "g", Type: typ("fun(int): int"), Init: expr("fun0")} })}, {"a list of functions as a variable", false, main(func(a *api.Actor) { a.Vars[1].Type = typ("[fun(): int]") })}, {"a variable of no type", false, main(func(a *api.Actor) { a.Vars[1].Type = api.Type{} })},
		{"an undeclared parameter of a handler", false, main(func(a *api.Actor) { a.On[1].Params[1].Type = typ("Nope") })}, {"a function as a parameter of a handler", false, main(func(a *api.Actor) { a.On[1].Params[1].Type = typ("fun(): int") })}, {"a parameter of a handler of no type", false, main(func(a *api.Actor) { a.On[1].Params[1].Type = api.Type{} })},
		{"an Init of another type", false, main(func(a *api.Actor) { a.Vars[0].Init = expr("text") })}, {"no Init", false, main(func(a *api.Actor) { a.Vars[0].Init = api.Expr{} })}, {"an Init with a variable", false, main(func(a *api.Actor) { a.Vars[2].Init = expr("state2") })}, {"a slot too few for an Init", false, work(func(a *api.Actor) { a.Slots = 2 })}, {"enough slots for an Init", true, work(func(a *api.Actor) { a.Slots = 3 })}, {"a body that is not valid", false, main(func(a *api.Actor) { a.On[2].Body = block("fail(int1)") })}, {"a body in another handler's scope", false, work(func(a *api.Actor) { a.On[1].Body = block("set0(local0)") })},
		{"no handlers", true, main(func(a *api.Actor) { a.On = nil })}, {"no variables", true, main(func(a *api.Actor) { a.Vars = nil })},
	})
	for _, c := range []struct {
		policy, most int
		want         bool
	}{
		{api.PoStop, 0, true}, {api.PoStop, 1, false}, {api.PoStop, -1, false}, {api.PoStop, 100, false}, {api.PoEscalate, 0, true}, {api.PoEscalate, 1, false}, {api.PoEscalate, -1, false},
		{api.PoRestart, 0, false}, {api.PoRestart, 1, true}, {api.PoRestart, 2, true}, {api.PoRestart, 99, true}, {api.PoRestart, 100, true}, {api.PoRestart, 101, false}, {api.PoRestart, -1, false}, {api.PoRestart, math.MaxInt, false}, {api.PoRestart, math.MinInt, false},
		{-1, 0, false}, {3, 0, false}, {3, 1, false}, {math.MaxInt, 0, false}, {math.MinInt, 0, false}, {-1, 1, false},
	} {
		for k := range 2 {
			p := base()
			p.Actors[k].Policy, p.Actors[k].Most = c.policy, c.most
			right(t, p, c.want, "policy ", c.policy, " with ", c.most, " of ", k)
		}
	}
}

// P1, P11.1: many declarations, each of which needs the next one, take no time that grows with their square.
func TestManyDeclarations(t *testing.T) {
	const count = 50000
	name := func(prefix string, k int) string { return prefix + strconv.Itoa(k) }
	p := api.Prog{Actors: []api.Actor{{Name: "Main"}}}
	for k := range count {
		next := api.Type{Kind: api.TyNamed, Name: name("T", k+1)}
		if k == count-1 {
			next = typ("ref A0")
		}
		p.Types = append(p.Types, api.Decl{Name: name("T", k), Record: true, Ctors: []api.Ctor{{Name: name("T", k), Fields: []api.Field{{Name: "x", Type: next}}}}})
		p.Effects = append(p.Effects, api.Effect{Name: name("e", k), Answer: typ("int")})
		p.Funs = append(p.Funs, api.Fun{Name: name("f", k), Result: typ("int"), Body: api.Expr{Op: api.XCall, N: (k + 1) % count}})
		p.Actors = append(p.Actors, api.Actor{Name: name("A", k), On: []api.Handler{{Msg: "Go", Params: fields("n", "int"), Slots: 1, Body: []api.Stmt{
			{Op: api.SDo, S: name("e", count-1-k), T: "Go"}, {Op: api.SSpawn, N: -1, S: name("A", count-1-k)},
		}}}})
	}
	if !core.Right(p) || len(core.Bytes(p)) == 0 {
		t.Error("many declarations are not valid")
	}
	p.Types[count-1].Ctors[0].Fields[0].Type = api.Type{Kind: api.TyNamed, Name: "T0"}
	if core.Right(p) {
		t.Error("a cycle of many types is valid")
	}
}
