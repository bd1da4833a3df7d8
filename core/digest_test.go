package core_test

import (
	"crypto/sha256"
	"math/rand"
	"slices"
	"testing"

	"retroact/api"
	"retroact/core"
)

// P11.3: the bytes of which the digest is taken, by hand.
func TestDigestBytes(t *testing.T) {
	p, _ := everyPart()
	// Main calls the function 1 and mentions the type V, which mentions P.
	p.Funs[0].Body = expr("ctor0'V'")
	p.Funs[1].Body = expr("add(int-64 call1)")
	p.Actors[0].On[0].Body = block("let1(fun0) let2(rec'P'(list)) set0(call1)")
	p.Actors[0].On[0].Slots = 3
	main := "\x04Main\x00\x02\x01\x01a\x03\x00\x00" + "\x20\x00\x00\x00\x02\x04\x00\x00\x02\x00\xff\x00\x21\x00\x00\x00\x00" +
		"\x02\x01M\x01\x01u\x01\x00\x00\x03\x03" +
		"\x01\x02\x00\x00\x00\x01\x22\x02\x00\x00\x00\x00\x00\x00" + // let, with the function 0 as number 1
		"\x01\x04\x00\x00\x00\x01\x09\x00\x00\x01P\x01\x08\x00\x00\x00\x00\x00\x00\x00" +
		"\x02\x00\x00\x00\x00\x01\x21\x00\x00\x00\x00\x00\x00\x00" + // set, with the function 1 as number 0
		"\x01N\x00\x00\x00"
	one := "\x00\x00\x03\x00\x00\x00\x14\x00\x00\x00\x02\x03\x7f\x00\x00\x00\x21\x00\x00\x00\x00"
	zero := "\x01f\x01\x01g\x08\x00\x02\x03\x00\x00\x04\x00\x00\x06\x01V\x00\xac\x02\x0c\x00\x00\x01V\x00"
	types := "\x01P\x01\x01\x01P\x01\x01x\x05\x00\x01\x03\x00\x00" + "\x01V\x00\x02\x01A\x00\x01B\x02\x00\x06\x01P\x00\x00\x02\x00\x00"
	for name, s := range map[string]string{"Main": main + one + zero + types, "W": "\x01W\x00\x00\x00\x00"} {
		if got, want := core.Digest(p, name), api.Digest(sha256.Sum256([]byte(s))); got != want {
			t.Errorf("%s: %x; want %x", name, got, want)
		}
	}
	if got := core.Digest(api.Prog{Actors: []api.Actor{{Name: "Main"}}}, "Main"); got != sha256.Sum256([]byte("\x04Main\x00\x00\x00\x00")) {
		t.Errorf("an empty actor: %x", got)
	}
}

// P11.3: there is no digest without the actor type, or of a program that is not valid.
func TestNoDigest(t *testing.T) {
	p := base()
	for _, name := range []string{"", "main", "Main ", "M", "Nope", "P", "V", "A", "f", "pay", "Do", "Mainx", "w", "\x00"} {
		if core.Digest(p, name) != (api.Digest{}) {
			t.Errorf("%q has a digest", name)
		}
	}
	for _, name := range []string{"Main", "W"} {
		if core.Digest(p, name) == (api.Digest{}) {
			t.Errorf("%q has no digest", name)
		}
	}
	p.Funs[4].Slots = -1
	for _, name := range []string{"Main", "W", "Nope"} {
		if core.Digest(p, name) != (api.Digest{}) {
			t.Errorf("%q has a digest in a program that is not valid", name)
		}
	}
}

// digestsAgree checks the digests of all actor types of a valid program.
func digestsAgree(t *testing.T, p api.Prog) {
	t.Helper()
	for _, a := range p.Actors {
		if got, want := core.Digest(p, a.Name), digest(p, a.Name); got != want {
			t.Errorf("%s: %x; want %x: %+v", a.Name, got, want, p)
		}
	}
}

// P11.3: the digests of some programs.
func TestDigests(t *testing.T) {
	digestsAgree(t, base())
	digestsAgree(t, compiled(t, source))
	for _, s := range validStatements() {
		digestsAgree(t, withBody(block(s)))
	}
}

// renumbered gives functions other indices wherever they are mentioned.
func renumbered(l []api.Expr, to []int) []api.Expr {
	l = slices.Clone(l)
	for k, x := range l {
		if x.Op == api.XCall || x.Op == api.XFun {
			l[k].N = to[x.N]
		}
		l[k].Kids = renumbered(x.Kids, to)
	}
	return l
}

func renumberedBlock(l []api.Stmt, to []int) []api.Stmt {
	l = slices.Clone(l)
	for k, x := range l {
		l[k].Xs, l[k].Then, l[k].Else, l[k].Arms = renumbered(x.Xs, to), renumberedBlock(x.Then, to), renumberedBlock(x.Else, to), renumberedBlock(x.Arms, to)
	}
	return l
}

// withFunctions returns a program whose functions are those with some indices, in that order.
func withFunctions(p api.Prog, order []int) api.Prog {
	p = copied(p)
	to := make([]int, len(p.Funs))
	for k := range to {
		to[k] = -1
	}
	var funs []api.Fun
	for k, old := range order {
		to[old] = k
		funs = append(funs, p.Funs[old])
	}
	p.Funs = funs
	for k, f := range p.Funs {
		p.Funs[k].Body = renumbered([]api.Expr{f.Body}, to)[0]
	}
	for _, a := range p.Actors {
		for k, v := range a.Vars {
			a.Vars[k].Init = renumbered([]api.Expr{v.Init}, to)[0]
		}
		for k, h := range a.On {
			a.On[k].Body = renumberedBlock(h.Body, to)
		}
	}
	return p
}

// P11.5: digests do not depend on the order of declarations.
func TestDigestsInAnyOrder(t *testing.T) {
	r := rand.New(rand.NewSource(1))
	for _, p := range []api.Prog{base(), compiled(t, source)} {
		want := map[string]api.Digest{}
		for _, a := range p.Actors {
			want[a.Name] = core.Digest(p, a.Name)
		}
		for range 100 {
			q := withFunctions(p, r.Perm(len(p.Funs)))
			r.Shuffle(len(q.Types), func(j, k int) { q.Types[j], q.Types[k] = q.Types[k], q.Types[j] })
			r.Shuffle(len(q.Effects), func(j, k int) { q.Effects[j], q.Effects[k] = q.Effects[k], q.Effects[j] })
			r.Shuffle(len(q.Actors), func(j, k int) { q.Actors[j], q.Actors[k] = q.Actors[k], q.Actors[j] })
			right(t, q, true, "in another order")
			for name, d := range want {
				if core.Digest(q, name) != d {
					t.Errorf("%s has another digest if declarations have another order", name)
				}
			}
		}
	}
}

// reaching is a program in which Main reaches the functions 1, 2 and 4 and the types R, S, T and U, and W reaches the function 2 and the types R and U.
func reaching() api.Prog {
	return api.Prog{
		Types: []api.Decl{
			{Name: "Q", Record: true, Ctors: []api.Ctor{{Name: "Q"}}}, {Name: "R", Record: true, Ctors: []api.Ctor{{Name: "R", Fields: fields("u", "[U]")}}},
			{Name: "S", Ctors: []api.Ctor{{Name: "S1"}, {Name: "S2", Fields: fields("", "R")}}}, {Name: "T", Record: true, Ctors: []api.Ctor{{Name: "T"}}}, {Name: "U", Ctors: []api.Ctor{{Name: "U1"}}},
		},
		Effects: []api.Effect{{Name: "pay", Params: fields("a", "int"), Answer: typ("int")}, {Name: "ask", Answer: typ("Q")}},
		Funs: []api.Fun{
			{Name: "none", Result: typ("Q"), Body: expr("rec'Q'")}, {Name: "one", Params: fields("n", "int"), Result: typ("int"), Slots: 1, Body: expr("call4")},
			{Name: "two", Params: fields("r", "R"), Result: typ("int"), Slots: 1, Body: expr("int2")}, {Result: typ("int"), Body: expr("call1(int1)")}, {Result: typ("int"), Body: expr("let0(rec'T' apply(fun2 rec'R'(list)))"), Slots: 1},
		},
		Actors: []api.Actor{
			{Name: "Main", Vars: []api.Var{{Name: "n", Type: typ("int"), Init: expr("call1(int1)")}}, On: []api.Handler{{Msg: "Go", Params: fields("n", "int"), Slots: 3, Body: block("set0(match(ctor0'S' arm0(int1) arm1/2(int2))) do'pay''Go'(int1) spawn1'W' if(bool1)then{set0(int1)}else{fail(text)} match(ctor0'S')arms{arm-1}")}, {Msg: "Old"}}},
			{Name: "W", Vars: []api.Var{{Name: "u", Type: typ("[U]"), Init: expr("list")}}, On: []api.Handler{{Msg: "Go", Body: block("let0(fun2)"), Slots: 1}}, Policy: api.PoRestart, Most: 2},
			{Name: "X", Params: fields("q", "Q"), Slots: 1},
		},
	}
}

// effect is a change of a program, and whether the digests of Main and W change by it.
type effect struct {
	name    string
	main, w bool
	f       func(p *api.Prog)
}

// unreachable are changes of what neither Main nor W can reach.
func unreachable() []effect {
	return []effect{
		{"an effect has another parameter", false, false, func(p *api.Prog) { p.Effects[0].Params[0].Name = "b" }}, {"an effect more", false, false, func(p *api.Prog) { p.Effects = append([]api.Effect{{Name: "x", Answer: typ("int")}}, p.Effects...) }}, {"an effect less", false, false, func(p *api.Prog) { p.Effects = p.Effects[:1] }},
		{"a type more", false, false, func(p *api.Prog) {
			p.Types = append([]api.Decl{{Name: "A", Record: true, Ctors: []api.Ctor{{Name: "A", Fields: fields("r", "R")}}}}, p.Types...)
		}},
		{"another unreachable type", false, false, func(p *api.Prog) {
			p.Types[0].Ctors[0].Fields = fields("a", "int")
			p.Funs[0].Body = expr("rec'Q'(int1)")
		}},
		{"an unreachable function has another body", false, false, func(p *api.Prog) { p.Funs[3].Body = expr("int5") }}, {"an unreachable function has another name", false, false, func(p *api.Prog) { p.Funs[0].Name = "nothing" }}, {"a function more", false, false, func(p *api.Prog) { p.Funs = append(p.Funs, api.Fun{Name: "x", Result: typ("T"), Body: expr("rec'T'")}) }},
		{"a function less", false, false, func(p *api.Prog) { *p = withFunctions(*p, []int{0, 1, 2, 4}) }}, {"two functions less", false, false, func(p *api.Prog) { *p = withFunctions(*p, []int{4, 2, 1}) }}, {"a type and what needs it less", false, false, func(p *api.Prog) {
			*p = withFunctions(*p, []int{1, 2, 4})
			p.Types, p.Effects, p.Actors = p.Types[1:], p.Effects[:1], p.Actors[:2]
		}},
		{"an actor less", false, false, func(p *api.Prog) { p.Actors = p.Actors[:2] }}, {"an actor more", false, false, func(p *api.Prog) { p.Actors = append([]api.Actor{{Name: "Y"}}, p.Actors...) }}, {"another unreachable actor", false, false, func(p *api.Prog) { p.Actors[2].Slots = 9 }},
		{"another policy of Main", false, false, func(p *api.Prog) { p.Actors[0].Policy = api.PoEscalate }}, {"more restarts of W", false, false, func(p *api.Prog) { p.Actors[1].Most = 3 }}, {"another policy of W", false, false, func(p *api.Prog) { p.Actors[1].Policy, p.Actors[1].Most = api.PoStop, 0 }},
	}
}

// reachable are changes of each part of what Main or W can reach.
func reachable() []effect {
	return []effect{
		{"the name of the function one", true, false, func(p *api.Prog) { p.Funs[1].Name = "uno" }}, {"no name of the function one", true, false, func(p *api.Prog) { p.Funs[1].Name = "" }}, {"the name of the function two", true, true, func(p *api.Prog) { p.Funs[2].Name = "due" }}, {"a name for the closure", true, false, func(p *api.Prog) { p.Funs[4].Name = "four" }},
		{"the body of the function two", true, true, func(p *api.Prog) { p.Funs[2].Body = expr("int3") }}, {"the body of the closure", true, false, func(p *api.Prog) { p.Funs[4].Body = expr("let0(rec'T' int1)") }}, {"the slots of the closure", true, false, func(p *api.Prog) { p.Funs[4].Slots = 2 }}, {"the slot of a let", true, false, func(p *api.Prog) { p.Funs[4].Slots, p.Funs[4].Body.N = 3, 2 }},
		{"the name of a parameter", true, true, func(p *api.Prog) { p.Funs[2].Params[0].Name = "s" }}, {"the type of a parameter", true, false, func(p *api.Prog) {
			p.Funs[1].Params[0].Type = typ("text")
			p.Funs[3].Body.Kids[0], p.Actors[0].Vars[0].Init.Kids[0] = expr("text"), expr("text")
		}},
		{"a call of another function with an equal body", true, false, func(p *api.Prog) {
			p.Funs = append(p.Funs, p.Funs[1])
			p.Funs[5].Name = "uno"
			p.Actors[0].Vars[0].Init.N = 5
		}},
		{"a name in a type", true, true, func(p *api.Prog) { p.Types[1].Ctors[0].Fields[0].Name = "v" }}, {"a type in a type", true, true, func(p *api.Prog) { p.Types[1].Ctors[0].Fields[0].Type = typ("[int]") }}, {"a constructor of an inner type", true, true, func(p *api.Prog) { p.Types[4].Ctors[0].Name = "U2" }}, {"a constructor more of an inner type", true, true, func(p *api.Prog) { p.Types[4].Ctors = append(p.Types[4].Ctors, api.Ctor{Name: "U2"}) }},
		{"a variant instead of a record", true, false, func(p *api.Prog) { p.Types[3].Record = false; p.Funs[4].Body.Kids[0] = expr("ctor0'T'") }}, {"a constructor of a variant", true, false, func(p *api.Prog) { p.Types[2].Ctors[1].Name = "S3" }}, {"a field of a variant", true, false, func(p *api.Prog) { p.Types[2].Ctors[1].Fields[0].Type = typ("U") }},
		{"the name of a variable", true, false, func(p *api.Prog) { p.Actors[0].Vars[0].Name = "m" }}, {"the type of a variable", false, true, func(p *api.Prog) { p.Actors[1].Vars[0].Type = typ("[R]") }}, {"an Init", false, true, func(p *api.Prog) { p.Actors[1].Vars[0].Init = expr("list(ctor0'U')") }}, {"a variable more", false, true, func(p *api.Prog) {
			p.Actors[1].Vars = append(p.Actors[1].Vars, api.Var{Name: "v", Type: typ("int"), Init: expr("int1")})
		}},
		{"a variable less", false, true, func(p *api.Prog) { p.Actors[1].Vars = nil }}, {"the slots of an actor", false, true, func(p *api.Prog) { p.Actors[1].Slots = 1 }}, {"a parameter of an actor", true, true, func(p *api.Prog) {
			p.Actors[1].Params, p.Actors[1].Slots = fields("n", "int"), 1
			p.Actors[0].On[0].Body[2].Xs = exprs("int1")
		}},
		{"a message", true, false, func(p *api.Prog) { p.Actors[0].On[1].Msg = "New" }}, {"a handler less", true, false, func(p *api.Prog) { p.Actors[0].On = p.Actors[0].On[:1] }}, {"a handler more", false, true, func(p *api.Prog) { p.Actors[1].On = append(p.Actors[1].On, api.Handler{Msg: "New"}) }}, {"the order of the handlers", true, false, func(p *api.Prog) { slices.Reverse(p.Actors[0].On) }},
		{"a parameter of a handler", false, true, func(p *api.Prog) {
			p.Actors[1].On[0].Params, p.Actors[1].On[0].Slots, p.Actors[1].On[0].Body[0].N = fields("n", "int"), 2, 1
		}}, {"the slots of a handler", true, false, func(p *api.Prog) { p.Actors[0].On[1].Slots = 1 }}, {"the body of a handler", true, false, func(p *api.Prog) { p.Actors[0].On[1].Body = block("stop") }},
		{"the slot of a spawn", true, false, func(p *api.Prog) { p.Actors[0].On[0].Body[2].N = -1 }}, {"the actor of a spawn", true, false, func(p *api.Prog) { p.Actors[0].On[0].Body[2].S = "Main" }}, {"the node of a spawn", true, false, func(p *api.Prog) {
			p.Actors[0].On[0].Body[2].M, p.Actors[0].On[0].Body[2].Xs = 1, exprs("int0")
		}}, {"the effect of a do", true, false, func(p *api.Prog) { p.Effects[0].Name, p.Actors[0].On[0].Body[1].S = "pay2", "pay2" }},
		{"the arguments of a do", true, false, func(p *api.Prog) { p.Actors[0].On[0].Body[1].Xs[0].N = 2 }}, {"the statements of an if", true, false, func(p *api.Prog) { p.Actors[0].On[0].Body[3].Then = nil }}, {"those of an else", true, false, func(p *api.Prog) { p.Actors[0].On[0].Body[3].Else = nil }}, {"then and else", true, false, func(p *api.Prog) {
			x := &p.Actors[0].On[0].Body[3]
			x.Then, x.Else = x.Else, x.Then
		}},
		{"an arm more", true, false, func(p *api.Prog) {
			p.Actors[0].On[0].Body[4].Arms = append(block("arm0"), p.Actors[0].On[0].Body[4].Arms...)
		}}, {"the slot of an arm", true, false, func(p *api.Prog) { p.Actors[0].On[0].Body[4].Arms[0].M = 1 }}, {"a message that is answered", true, false, func(p *api.Prog) {
			p.Actors[0].On = append(p.Actors[0].On, api.Handler{Msg: "Zo", Params: fields("n", "int"), Slots: 1})
			p.Actors[0].On[0].Body[1].T = "Zo"
		}},
		{"the names of actors", true, true, func(p *api.Prog) {
			p.Actors[1].Name, p.Actors[0].On[0].Body[2].S = "W2", "W2"
			p.Actors = append(p.Actors, api.Actor{Name: "W"})
		}},
	}
}

// P11.3, P11.5: a digest changes exactly if something changes that the actor type can reach.
func TestReach(t *testing.T) {
	p := reaching()
	right(t, p, true, "reaching")
	main, w := core.Digest(p, "Main"), core.Digest(p, "W")
	for _, c := range slices.Concat(unreachable(), reachable()) {
		q := copied(reaching())
		c.f(&q)
		right(t, q, true, c.name)
		if got := core.Digest(q, "Main") != main; got != c.main {
			t.Errorf("%s: the digest of Main has changed: %v", c.name, got)
		}
		if got := core.Digest(q, "W") != w; got != c.w {
			t.Errorf("%s: the digest of W has changed: %v", c.name, got)
		}
		digestsAgree(t, q)
	}
}
