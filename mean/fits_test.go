package mean_test

import (
	"math"
	"reflect"
	"strings"
	"testing"

	"retroact/api"
	"retroact/core"
	"retroact/mean"
)

// ward is a program whose actor types have parameters, state variables and handlers of several types.
const ward = `
record P { x: int, y: [int] } variant V { A(int), B(P, text), C }
fun f(n: int): int = n
actor Main() { state n: int = 0 on Go() { } on Stop() { stop } }
actor W(k: int, p: P) {
  state a: int = k state v: V = A(k) state l: [P] = [p] state me: ref W = self
  on Go(v: V, t: text) { } on None() { } on Mixed(a: [V], b: ref Main, c: unit, d: bool) { }
}`

// wardVars returns values of the state variables of W.
func wardVars() []api.Value { return plains("1", `V#1(P{2, [3]}, "t")`, "[P{0, []}]", "W@0.7") }

// goCall returns a call of W that fits.
func goCall() api.Call {
	return api.Call{Actor: "W", Path: "0.1", Kids: 3, Vars: wardVars(), Msg: "Go", Args: plains("V#2()", `"x"`)}
}

// initCall returns a call of the initializer of W that fits.
func initCall() api.Call {
	return api.Call{Actor: "W", Path: "0.1", Args: plains("7", "P{1, [2, 3]}")}
}

// fits checks whether a call fits by both functions to which that matters.
func fits(t *testing.T, p api.Prog, c api.Call, want bool, message any) {
	t.Helper()
	r := mean.Run(p, c)
	if got := mean.Fits(p, c); got != want || (printed(r) == printed(notCall())) == want {
		t.Errorf("%v: %s fits: %v, %s; want %v", message, shortened(c), got, shortened(r), want)
	}
}

// P13.1, P13.2: calls that fit, of each handler and initializer.
func TestFits(t *testing.T) {
	p := compiled(t, ward)
	for _, c := range []api.Call{
		goCall(), initCall(), {Actor: "Main", Path: "0"}, {Actor: "Main", Path: "0", Vars: plains("-5"), Msg: "Go"}, {Actor: "Main", Path: "0.5.6", Vars: plains("9007199254740992"), Msg: "Stop", Args: []api.Value{}},
		{Actor: "Main", Path: "0", Vars: []api.Value{}, Args: []api.Value{}}, {Actor: "W", Path: "0", Vars: wardVars(), Msg: "None"},
		{Actor: "W", Path: "0.0", Vars: wardVars(), Msg: "Mixed", Args: plains("[V#0(1), V#2()]", "Main@0.3", "()", "true")},
		{Actor: "W", Path: "0.0", Vars: wardVars(), Msg: "Mixed", Args: plains("[]", "Main@0", "()", "false")},
	} {
		fits(t, p, c, true, "a call")
	}
}

// P13.1: the path and the number of children, by themselves.
func TestFitsPathAndKids(t *testing.T) {
	p := compiled(t, ward)
	for _, whole := range []func() api.Call{goCall, initCall} {
		for path, want := range map[string]bool{
			"0": true, "0.0": true, "0.1": true, "0.12.345": true, "0.9007199254740992": true, "0" + strings.Repeat(".1", 98): true, "0" + strings.Repeat(".1", 98) + ".12": true, "0" + strings.Repeat(".1", 99): true, "0" + strings.Repeat(".1", 98) + ".123": false,
			"": false, "1": false, "00": false, "0.": false, ".0": false, "0.01": false, "0..1": false, "0.-1": false, "0.a": false, " 0": false, "0.1 ": false, "0.9007199254740993": false, "0" + strings.Repeat(".1", 100): false, "Main": false, "W@0": false,
		} {
			c := whole()
			c.Path = path
			fits(t, p, c, want, path)
		}
		for kids, want := range map[int]bool{
			0: true, 1: true, 2: true, 64: true, 1 << 20: true, 1<<40 - 1: true, 1 << 40: true, 1<<40 + 1: false, 1 << 41: false, 1 << 53: false, math.MaxInt: false, -1: false, -2: false, -1 << 40: false, math.MinInt: false,
		} {
			c := whole()
			c.Kids = kids
			fits(t, p, c, want, kids)
		}
	}
}

// P13.1: the names of the actor type and the message, by themselves.
func TestFitsNames(t *testing.T) {
	p := compiled(t, ward)
	for name, want := range map[string]bool{"W": true, "Main": false, "": false, "w": false, "W ": false, "P": false, "V": false, "A": false, "X": false, "f": false, "Go": false} {
		for _, c := range []api.Call{goCall(), initCall()} {
			c.Actor = name
			fits(t, p, c, want, name)
		}
	}
	for name, want := range map[string]bool{"Go": true, "None": false, "Mixed": false, "Stop": false, "go": false, "Go ": false, " ": false, "W": false, "\x00": false, "init": false} {
		c := goCall()
		c.Msg = name
		fits(t, p, c, want, name)
	}
	for name, want := range map[string]bool{"None": true, "Go": false, "Stop": false, "none": false, "": false} {
		c := goCall()
		c.Msg, c.Args = name, nil
		fits(t, p, c, want, name)
	}
	// An actor type that there is not has no initializer either, not even one without parameters.
	for name, want := range map[string]bool{"Main": true, "W": false, "": false, "main": false, "X": false, "P": false, "Go": false, "Main ": false} {
		fits(t, p, api.Call{Actor: name, Path: "0"}, want, name)
	}
	// A message that another actor type has.
	c := goCall()
	c.Msg, c.Args = "Stop", nil
	fits(t, p, c, false, "Stop")
	c.Actor, c.Vars = "Main", plains("1")
	fits(t, p, c, true, "Stop of Main")
}

// P13.1: an empty message stands for the initializer, with which there are no Vars.
func TestFitsInitializer(t *testing.T) {
	p := compiled(t, ward)
	for _, vars := range [][]api.Value{wardVars(), wardVars()[:1], plains("0"), {{}}, {unit()}} {
		c := initCall()
		c.Vars = vars
		fits(t, p, c, false, shown(vars))
	}
	c := goCall()
	c.Msg = ""
	fits(t, p, c, false, "the Vars and Args of a handler")
	c.Vars = nil
	fits(t, p, c, false, "the Args of a handler")
	c = initCall()
	c.Msg, c.Vars = "Go", wardVars()
	fits(t, p, c, false, "the Args of the initializer")
	c = api.Call{Actor: "Main", Path: "0", Vars: plains("0")}
	fits(t, p, c, false, "the Vars of Main")
	c.Vars = nil
	fits(t, p, c, true, "Main")
}

// wrong are values that belong to no type of ward, or are not valid.
func wrong() []api.Value {
	return []api.Value{
		{}, {Kind: 99}, {Kind: -1}, integer(api.MaxNum + 1), {Kind: api.VInt, S: "x"}, {Kind: api.VInt, L: []api.Value{unit()}}, truth(2), text(strings.Repeat("x", api.MaxText+1)), nodes(api.MaxValue + 1), zeros(api.MaxList + 1),
		closure(0), closure(0, integer(1)), record("Nope"), variant("Nope", 0), variant("V", 3), variant("V", -1), reference("Nope", "0"), reference("W", "00"), record("P"), record("V", integer(1), list()), variant("P", 0, integer(1), list()), list(list(list(text("")))),
	}
}

// P13.1: values too few, too many, and of another type, in Vars and Args.
func TestFitsValues(t *testing.T) {
	p := compiled(t, ward)
	for _, whole := range []func() api.Call{goCall, initCall} {
		for _, place := range []func(c *api.Call) *[]api.Value{func(c *api.Call) *[]api.Value { return &c.Vars }, func(c *api.Call) *[]api.Value { return &c.Args }} {
			change := func(f func(l *[]api.Value), message any) {
				c := whole()
				f(place(&c))
				fits(t, p, c, false, message)
			}
			c := whole()
			l := *place(&c)
			for _, v := range append(wrong(), integer(1), text("x"), unit(), list(), record("P", integer(1), list()), variant("V", 2)) {
				change(func(l *[]api.Value) { *l = append(*l, v) }, "one more")
				change(func(l *[]api.Value) { *l = append([]api.Value{v}, *l...) }, "one more at the beginning")
			}
			for k := range l {
				change(func(l *[]api.Value) { *l = (*l)[:k] }, "fewer")
				change(func(l *[]api.Value) { *l = (*l)[k+1:] }, "fewer at the beginning")
				for _, v := range wrong() {
					change(func(l *[]api.Value) { (*l)[k] = v }, "another value")
				}
				change(func(l *[]api.Value) { (*l)[k] = (*l)[(k+1)%len(*l)] }, "the value of another place")
			}
		}
	}
}

// spoilable are places in Vars or Args, each of which contains an integer at some depth.
func spoilable() []api.Call {
	c, d := goCall(), goCall()
	d.Args[0] = plain(`V#1(P{5, [6, 7]}, "t")`)
	return []api.Call{c, d, initCall()}
}

// P13.1: a span fits at no depth of Vars and Args, although it belongs to the type int (12).
func TestFitsSpans(t *testing.T) {
	p := compiled(t, ward)
	places := 0
	for _, c := range spoilable() {
		fits(t, p, c, true, "without a span")
		parts(&c, func(v reflect.Value) {
			x, isValue := v.Interface().(api.Value)
			if !isValue || x.Kind != api.VInt {
				return
			}
			places++
			for _, s := range []api.Value{span(0, 1), span(-5, 5), span(-api.MaxNum, api.MaxNum)} {
				v.Set(reflect.ValueOf(s))
				fits(t, p, c, false, "with a span")
			}
			v.Set(reflect.ValueOf(x))
		})
		fits(t, p, c, true, "without a span again")
	}
	if places < 13 {
		t.Error("only", places, "places")
	}
}

// P13.1: nothing fits a program that is not valid, even where the call has nothing to do with what is wrong.
func TestFitsInvalidPrograms(t *testing.T) {
	for k, change := range []func(p *api.Prog){
		func(p *api.Prog) { *p = api.Prog{} },
		func(p *api.Prog) { p.Actors = p.Actors[1:] },
		func(p *api.Prog) { p.Actors[0].Params = fields("x", "int") },
		func(p *api.Prog) { p.Actors[0].Most = 1 },
		func(p *api.Prog) { p.Funs[0].Slots = 0 },
		func(p *api.Prog) { p.Funs[0].Body = expr("text") },
		func(p *api.Prog) { p.Types[0].Name = "p" },
		func(p *api.Prog) { p.Actors[1].Vars[0].Init = expr("text") },
		func(p *api.Prog) { p.Actors[1].On[1].Body = block("set0(text)") },
		func(p *api.Prog) { p.Effects = append(p.Effects, api.Effect{}) },
		// Two actor types of one name, which differ or not.
		func(p *api.Prog) { p.Actors = append(p.Actors, p.Actors[1]) },
		func(p *api.Prog) { p.Actors = append(p.Actors, api.Actor{Name: "W"}) },
		func(p *api.Prog) { p.Actors = append([]api.Actor{{Name: "W"}}, p.Actors...) },
		func(p *api.Prog) { p.Actors = append(p.Actors, api.Actor{Name: "Main"}) },
		// Two handlers of one message.
		func(p *api.Prog) { p.Actors[1].On = append(p.Actors[1].On, p.Actors[1].On[0]) },
		func(p *api.Prog) { p.Actors[1].On = append(p.Actors[1].On, api.Handler{Msg: "None"}) },
	} {
		p := compiled(t, ward)
		change(&p)
		for _, c := range []api.Call{goCall(), initCall(), {Actor: "Main", Path: "0"}, {Actor: "Main", Path: "0", Vars: plains("0"), Msg: "Go"}} {
			fits(t, p, c, false, k)
		}
	}
	p := compiled(t, ward)
	p.Actors[0], p.Actors[1] = p.Actors[1], p.Actors[0]
	if !core.Right(p) {
		t.Fatal("the order of actor types matters")
	}
	fits(t, p, goCall(), true, "another order")
	fits(t, p, initCall(), true, "another order")
}
