package types_test

import (
	"fmt"
	"math/rand"
	"reflect"
	"slices"
	"strings"
	"testing"

	"retroact/api"
	"retroact/syntax"
	"retroact/types"
)

// printed shows all fields of a value; nil and empty slices are alike.
func printed(x any) string { return fmt.Sprintf("%+v", x) }

func parsed(t *testing.T, s string) api.Node {
	t.Helper()
	n, e, at := syntax.Patch(s)
	if e != api.OK {
		t.Fatalf("%s: error %d at %d", s, e, at)
	}
	return n
}

// declared returns the program of a source or patch file without errors.
func declared(t *testing.T, s string) api.Prog {
	t.Helper()
	p, e, at := types.Decls(parsed(t, s))
	if e != api.OK || at != 0 {
		t.Fatalf("%s: error %d at %d", s, e, at)
	}
	return p
}

func copied(x api.Type) api.Type {
	x.Args = slices.Clone(x.Args)
	for k := range x.Args {
		x.Args[k] = copied(x.Args[k])
	}
	return x
}

// region is the memory of a slice, with the elements beyond its length.
type region struct{ from, to uintptr }

func regions(v reflect.Value) []region {
	var l []region
	switch v.Kind() {
	case reflect.Slice:
		if size := uintptr(v.Cap()) * v.Type().Elem().Size(); size > 0 {
			l = append(l, region{v.Pointer(), v.Pointer() + size})
		}
		for k := range v.Len() {
			l = append(l, regions(v.Index(k))...)
		}
	case reflect.Struct:
		for k := range v.NumField() {
			l = append(l, regions(v.Field(k))...)
		}
	}
	return l
}

// unshared checks that no two slices in values share memory.
func unshared(t *testing.T, values ...any) {
	t.Helper()
	var l []region
	for _, x := range values {
		l = append(l, regions(reflect.ValueOf(x))...)
	}
	slices.SortFunc(l, func(a, b region) int { return int(a.from) - int(b.from) })
	for k := 1; k < len(l); k++ {
		if l[k-1].to > l[k].from {
			t.Fatal("slices share memory")
		}
	}
}

// spoil changes every number, string and bool within the value that a pointer points to.
func spoil(pointer any) { spoilValue(reflect.ValueOf(pointer).Elem()) }

func spoilValue(v reflect.Value) {
	switch v.Kind() {
	case reflect.Int:
		v.SetInt(v.Int() + 1)
	case reflect.String:
		v.SetString(v.String() + "!")
	case reflect.Bool:
		v.SetBool(!v.Bool())
	case reflect.Slice:
		for k := range v.Len() {
			spoilValue(v.Index(k))
		}
	case reflect.Struct:
		for k := range v.NumField() {
			spoilValue(v.Field(k))
		}
	}
}

// site is a node with the nodes above it, as their places in pre-order, the root first.
type site struct {
	api.Node
	above []int
}

// sites lists the nodes of a tree in pre-order, without those of changes.
func sites(n api.Node) []site {
	var l []site
	var visit func(n api.Node, above []int)
	visit = func(n api.Node, above []int) {
		if n.Kind >= syntax.KConvType && n.Kind <= syntax.KDrop {
			return
		}
		l = append(l, site{n, above})
		below := append(slices.Clone(above), len(l)-1)
		for _, kid := range n.Kids {
			visit(kid, below)
		}
	}
	visit(n, nil)
	return l
}

// spaces names the groups in which the name of a node must be distinct.
func (x site) spaces(all []site) []string {
	switch x.Kind {
	case syntax.KRecord:
		return []string{"types", "constructors"}
	case syntax.KVariant, syntax.KActor:
		return []string{"types"}
	case syntax.KCtor:
		return []string{"constructors"}
	case syntax.KFun:
		return []string{"functions"}
	case syntax.KEffect:
		return []string{"effects"}
	case syntax.KField, syntax.KState, syntax.KOn:
		if owner := x.above[len(x.above)-1]; all[owner].Kind != syntax.KLambda {
			return []string{fmt.Sprint(x.Kind, " of ", owner)}
		}
	}
	return nil
}

func isTypeNode(n api.Node) bool { return n.Kind >= syntax.KTypeName && n.Kind <= syntax.KTypeFun }

// inLambda reports whether a node is within a lambda.
func (x site) inLambda(all []site) bool {
	return slices.ContainsFunc(x.above, func(k int) bool { return all[k].Kind == syntax.KLambda })
}

// model finds the error of a right tree by trying the items of P9.5 on one node after another.
func model(n api.Node) (api.Errno, int) {
	all := sites(n)
	for _, row := range []struct {
		e     api.Errno
		wrong func(k int) bool
	}{
		{api.ErrTwice, func(k int) bool { return isTwice(all, k) }},
		{api.ErrName, func(k int) bool { return isNowhere(all, k) }},
		{api.ErrType, func(k int) bool { return isUnstorable(all, k) }},
		{api.ErrRange, func(k int) bool { return all[k].Kind == syntax.KActor && (all[k].N == 1 || all[k].N > 101) }},
		{api.ErrLoop, func(k int) bool { return isType(all[k].Node) && !finite(all)[all[k].Text] }},
	} {
		for k := range all {
			if row.wrong(k) {
				return row.e, all[k].At
			}
		}
	}
	for _, x := range all {
		if x.Kind != syntax.KActor || x.Text != "Main" {
			continue
		}
		if len(x.Kids) > 0 && x.Kids[0].Kind == syntax.KField {
			return api.ErrType, x.At
		}
		return api.OK, 0
	}
	return api.ErrNone, 0
}

func isType(n api.Node) bool { return n.Kind == syntax.KRecord || n.Kind == syntax.KVariant }

func isTwice(all []site, k int) bool {
	spaces := all[k].spaces(all)
	if all[k].Kind == syntax.KFun && slices.Contains(strings.Fields("len at put slice size sub show"), all[k].Text) {
		return true
	}
	return slices.ContainsFunc(all[:k], func(x site) bool {
		return x.Text == all[k].Text && slices.ContainsFunc(x.spaces(all), func(s string) bool { return slices.Contains(spaces, s) })
	})
}

func isNowhere(all []site, k int) bool {
	x := all[k]
	if x.inLambda(all) || x.Kind != syntax.KTypeRef && x.Kind != syntax.KTypeName || slices.Contains(strings.Fields("int bool text unit"), x.Text) {
		return false
	}
	return !slices.ContainsFunc(all, func(y site) bool {
		declares := isType(y.Node)
		if x.Kind == syntax.KTypeRef {
			declares = y.Kind == syntax.KActor
		}
		return declares && x.Text == y.Text
	})
}

func isUnstorable(all []site, k int) bool {
	x := all[k]
	if !isTypeNode(x.Node) || isTypeNode(all[x.above[len(x.above)-1]].Node) || all[x.above[1]].Kind == syntax.KFun || x.inLambda(all) {
		return false
	}
	return slices.ContainsFunc(all, func(y site) bool {
		return y.Kind == syntax.KTypeFun && slices.Contains(append(slices.Clone(y.above), -1), k)
	}) || x.Kind == syntax.KTypeFun
}

// finite is the least set of the definition: types are added until no other one has a constructor whose arguments are all in it.
func finite(all []site) map[string]bool {
	set := map[string]bool{}
	isFinite := func(n api.Node) bool {
		if n.Kind == syntax.KField {
			n = n.Kids[0]
		}
		return n.Kind != syntax.KTypeName || set[n.Text] || slices.Contains(strings.Fields("int bool text unit"), n.Text)
	}
	haveFinite := func(l []api.Node) bool {
		return !slices.ContainsFunc(l, func(n api.Node) bool { return !isFinite(n) })
	}
	for size := -1; size < len(set); {
		size = len(set)
		for _, x := range all {
			if x.Kind == syntax.KRecord && haveFinite(x.Kids) || x.Kind == syntax.KVariant && slices.ContainsFunc(x.Kids, func(c api.Node) bool { return haveFinite(c.Kids) }) {
				set[x.Text] = true
			}
		}
	}
	return set
}

// maker makes arbitrary programs. Where odd is 0, nearly all of them are without an error; the larger it is, the more errors they have.
type maker struct {
	*rand.Rand
	odd int
	// upper and lower count the names that are new.
	upper, lower int
	// decls and actors are the names that types may use.
	decls, actors []string
}

// chance is true in about one of n cases.
func (m *maker) chance(n int) bool { return m.Intn(n) == 0 }

func (m *maker) strange() bool { return m.Intn(100) < m.odd }

// upperName returns a new name, or one that may occur elsewhere.
func (m *maker) upperName() string {
	if m.strange() {
		return []string{"A", "B", "C", "P", "Q", "Main"}[m.Intn(6)]
	}
	m.upper++
	return fmt.Sprint("U", m.upper)
}

func (m *maker) lowerName() string {
	if m.strange() {
		return []string{"a", "b", "len", "at", "put", "slice", "size", "sub", "show", "x", "y"}[m.Intn(11)]
	}
	m.lower++
	return fmt.Sprint("l", m.lower)
}

// someType returns a type of at most that depth, and with functions in it only if they are wanted or something is wrong.
func (m *maker) someType(depth int, withFuns bool) api.Type {
	pick := func(l []string) string {
		if m.strange() || len(l) == 0 {
			return []string{"A", "B", "Main", "Nowhere"}[m.Intn(4)]
		}
		return l[m.Intn(len(l))]
	}
	switch m.Intn(8) {
	case 0, 1:
		return named(pick(m.decls))
	case 2:
		return ref(pick(m.actors))
	case 3, 4:
		if depth > 0 {
			return list(m.someType(depth-1, withFuns))
		}
	case 5, 6:
		if depth > 0 && (withFuns || m.strange()) {
			x := fun()
			for range m.Intn(3) + 1 {
				x.Args = append(x.Args, m.someType(depth-1, withFuns))
			}
			return x
		}
	}
	return basic(api.TyUnit + m.Intn(4))
}

func (m *maker) fields(withFuns bool) []api.Field {
	var l []api.Field
	for range m.Intn(4) {
		l = append(l, api.Field{Name: m.lowerName(), Type: m.someType(3, withFuns)})
	}
	return l
}

func (m *maker) decl(name string) api.Decl {
	if m.chance(2) {
		return api.Decl{Name: name, Record: true, Ctors: []api.Ctor{{Name: name, Fields: m.fields(false)}}}
	}
	d := api.Decl{Name: name}
	for range m.Intn(3) + 1 {
		c := api.Ctor{Name: m.upperName()}
		for range m.Intn(3) {
			c.Fields = append(c.Fields, api.Field{Type: m.someType(3, false)})
		}
		d.Ctors = append(d.Ctors, c)
	}
	return d
}

func (m *maker) actor(name string) api.Actor {
	a := api.Actor{Name: name}
	if name != "Main" || m.strange() {
		a.Params = m.fields(false)
	}
	for range m.Intn(3) {
		a.Vars = append(a.Vars, api.Var{Name: m.lowerName(), Type: m.someType(3, false)})
	}
	for range m.Intn(3) {
		a.On = append(a.On, api.Handler{Msg: m.upperName(), Params: m.fields(false)})
	}
	switch m.Intn(4) {
	case 0:
		a.Policy = api.PoEscalate
	case 1:
		a.Policy, a.Most = api.PoRestart, []int{1, 2, 57, 99, 100}[m.Intn(5)]
	}
	if m.strange() {
		a.Policy, a.Most = api.PoRestart, []int{0, 101, 102, api.MaxNum}[m.Intn(4)]
	}
	return a
}

// program makes a program that is without an error if nothing strange happened and its types are finite.
func (m *maker) program() api.Prog {
	var p api.Prog
	for range m.Intn(4) {
		m.decls = append(m.decls, m.upperName())
	}
	for range m.Intn(3) {
		m.actors = append(m.actors, m.upperName())
	}
	if !m.strange() {
		m.actors = slices.Insert(m.actors, m.Intn(len(m.actors)+1), "Main")
	}
	for _, name := range m.decls {
		p.Types = append(p.Types, m.decl(name))
	}
	for _, name := range m.actors {
		p.Actors = append(p.Actors, m.actor(name))
	}
	for range m.Intn(3) {
		p.Effects = append(p.Effects, api.Effect{Name: m.lowerName(), Params: m.fields(false), Answer: m.someType(3, false)})
	}
	for range m.Intn(3) {
		p.Funs = append(p.Funs, api.Fun{Name: m.lowerName(), Params: m.fields(true), Result: m.someType(3, true)})
	}
	return p
}

func fieldsText(l []api.Field) string {
	var words []string
	for _, f := range l {
		words = append(words, f.Name+": "+types.Show(f.Type))
	}
	return strings.Join(words, ", ")
}

// expression returns one with types that belong to layer 10, if any.
func (m *maker) expression() string {
	return []string{"1", "x", "f(A, [B])", "fun(a: Nowhere, a: Main): ref Nobody = fun(x: fun(): Other): P = x", "let x = fun(): [P] = 1 in x"}[m.Intn(5)]
}

func declText(d api.Decl) string {
	if d.Record {
		return "record " + d.Name + " { " + fieldsText(d.Ctors[0].Fields) + " }"
	}
	var words []string
	for _, c := range d.Ctors {
		var args []string
		for _, f := range c.Fields {
			args = append(args, types.Show(f.Type))
		}
		s := c.Name
		if len(args) > 0 {
			s += "(" + strings.Join(args, ", ") + ")"
		}
		words = append(words, s)
	}
	return "variant " + d.Name + " { " + strings.Join(words, ", ") + " }"
}

// actorText mixes the state members and the handlers, each in their order.
func (m *maker) actorText(a api.Actor) string {
	var vars, on []string
	for _, v := range a.Vars {
		vars = append(vars, "state "+v.Name+": "+types.Show(v.Type)+" = "+m.expression())
	}
	for _, h := range a.On {
		on = append(on, "on "+h.Msg+"("+fieldsText(h.Params)+") { let z = "+m.expression()+" }")
	}
	policy := []string{"", fmt.Sprint(" restart ", a.Most), " escalate"}[a.Policy]
	return "actor " + a.Name + "(" + fieldsText(a.Params) + ")" + policy + " { " + strings.Join(m.mixed(vars, on), " ") + " }"
}

// mixed merges lists, each of which keeps its order.
func (m *maker) mixed(lists ...[]string) []string {
	var turns []int
	for k, l := range lists {
		for range l {
			turns = append(turns, k)
		}
	}
	m.Shuffle(len(turns), func(j, k int) { turns[j], turns[k] = turns[k], turns[j] })
	var all []string
	next := make([]int, len(lists))
	for _, k := range turns {
		all = append(all, lists[k][next[k]])
		next[k]++
	}
	return all
}

// source writes a program, with changes between its declarations that have errors of their own.
func (m *maker) source(p api.Prog) string {
	var decls, effects, funs, actors, changes []string
	for _, d := range p.Types {
		decls = append(decls, declText(d))
	}
	for _, f := range p.Effects {
		effects = append(effects, "effect "+f.Name+"("+fieldsText(f.Params)+"): "+types.Show(f.Answer))
	}
	for _, f := range p.Funs {
		funs = append(funs, "fun "+f.Name+"("+fieldsText(f.Params)+"): "+types.Show(f.Result)+" = "+m.expression())
	}
	for _, a := range p.Actors {
		actors = append(actors, m.actorText(a))
	}
	for range m.Intn(3) {
		changes = append(changes, []string{
			"convert type A(x: Nowhere, x: fun(): int) = x", "convert type V.A(x: ref Nobody) = 1", "convert actor Main(x: int, x: int) { x = 1, x = 2 }",
			"convert message Main.Go(x: Nowhere) = init(x)", "move Nobody to 9", "drop Nobody", "drop Main",
		}[m.Intn(7)])
	}
	return strings.Join(m.mixed(decls, effects, funs, actors, changes), "\n")
}

// P9.4, P9.5, P9.7: arbitrary programs have the first error of the list at the first node in pre-order, or are what was written, with the properties of P9.7.
func TestArbitraryPrograms(t *testing.T) {
	counts := map[api.Errno]int{}
	for seed := range 12000 {
		m := &maker{Rand: rand.New(rand.NewSource(int64(seed))), odd: []int{0, 1, 3, 10, 40}[seed%5]}
		p := m.program()
		s := m.source(p)
		n := parsed(t, s)
		want, offset := model(n)
		got, e, at := types.Decls(n)
		if e != want || at != offset {
			t.Fatalf("%s\nerror %d at %d; want %d at %d", s, e, at, want, offset)
		}
		counts[e]++
		if e != api.OK {
			p = api.Prog{}
		}
		if printed(got) != printed(p) {
			t.Fatalf("%s\n%+v; want\n%+v", s, got, p)
		}
		if e == api.OK {
			sound(t, got)
		}
	}
	for _, e := range []api.Errno{api.OK, api.ErrTwice, api.ErrName, api.ErrType, api.ErrRange, api.ErrLoop, api.ErrNone} {
		if counts[e] < 100 {
			t.Error("error", e, "occurred only", counts[e], "times")
		}
	}
}

// sound checks the properties of P9.7 of a program that was returned with OK.
func sound(t *testing.T, p api.Prog) {
	t.Helper()
	right := func(x api.Type, stored bool) {
		if !types.Right(p, x) || stored && !types.Storable(x) {
			t.Fatalf("%+v: type %v", p, x)
		}
	}
	all := func(l []api.Field, stored bool) {
		for _, f := range l {
			right(f.Type, stored)
		}
	}
	for j, d := range p.Types {
		if k, ok := types.Find(p, d.Name); k != j || !ok {
			t.Fatalf("%+v: type %s is found at %d", p, d.Name, k)
		}
		for j, c := range d.Ctors {
			if owner, k, ok := types.Ctor(p, c.Name); owner != d.Name || k != j || !ok {
				t.Fatalf("%+v: constructor %s is found in %s at %d", p, c.Name, owner, k)
			}
			all(c.Fields, true)
		}
	}
	for _, f := range p.Effects {
		all(f.Params, true)
		right(f.Answer, true)
	}
	for _, f := range p.Funs {
		all(f.Params, false)
		right(f.Result, false)
	}
	for j, a := range p.Actors {
		if k, ok := types.Actor(p, a.Name); k != j || !ok {
			t.Fatalf("%+v: actor %s is found at %d", p, a.Name, k)
		}
		all(a.Params, true)
		for _, v := range a.Vars {
			right(v.Type, true)
		}
		for _, h := range a.On {
			all(h.Params, true)
		}
	}
}
