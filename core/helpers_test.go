package core_test

import (
	"fmt"
	"reflect"
	"runtime/debug"
	"slices"
	"sync"
	"testing"

	"retroact/api"
	"retroact/check"
	"retroact/core"
	"retroact/syntax"
	"retroact/types"
)

// TestMain lets the garbage of many small programs be collected less often, which makes the tests several times as fast.
func TestMain(m *testing.M) {
	debug.SetGCPercent(1000)
	m.Run()
}

// parsedTypes holds the types of forms that have been parsed.
var parsedTypes sync.Map

// typ returns the type of a form such as `[int]`.
func typ(form string) api.Type {
	if t, found := parsedTypes.Load(form); found {
		return copiedType(t.(api.Type))
	}
	n, e, at := syntax.Parse("effect e(): " + form)
	if e != api.OK {
		panic(fmt.Sprint(form, ": error ", e, " at ", at))
	}
	t, _ := types.Read(n.Kids[0].Kids[0])
	parsedTypes.Store(form, t)
	return copiedType(t)
}

func copiedType(t api.Type) api.Type {
	t.Args = slices.Clone(t.Args)
	for k := range t.Args {
		t.Args[k] = copiedType(t.Args[k])
	}
	return t
}

func field(name, form string) api.Field { return api.Field{Name: name, Type: typ(form)} }

// fields takes names and forms of types in turn.
func fields(l ...string) []api.Field {
	var all []api.Field
	for k := 0; k < len(l); k += 2 {
		all = append(all, field(l[k], l[k+1]))
	}
	return all
}

// base returns the program that the tables of the tests extend.
func base() api.Prog {
	return api.Prog{
		Types: []api.Decl{
			{Name: "P", Record: true, Ctors: []api.Ctor{{Name: "P", Fields: fields("x", "int", "y", "[int]")}}},
			{Name: "E", Record: true, Ctors: []api.Ctor{{Name: "E"}}},
			{Name: "N", Record: true, Ctors: []api.Ctor{{Name: "N", Fields: fields("p", "P", "v", "V")}}},
			{Name: "V", Ctors: []api.Ctor{{Name: "A", Fields: fields("", "int")}, {Name: "B", Fields: fields("", "P", "", "text")}, {Name: "C"}}},
			{Name: "O", Ctors: []api.Ctor{{Name: "O"}}},
		},
		Effects: []api.Effect{
			{Name: "pay", Params: fields("a", "int", "t", "text"), Answer: typ("bool")},
			{Name: "ask", Answer: typ("text")},
			{Name: "tell", Params: fields("u", "[V]"), Answer: typ("[V]")},
		},
		Funs: []api.Fun{
			{Name: "f", Params: fields("n", "int"), Result: typ("int"), Slots: 1, Body: expr("local0")},
			{Name: "h", Params: fields("g", "fun(int, text): bool", "l", "[int]"), Result: typ("bool"), Slots: 3, Body: expr("apply(local0 int1 text'')")},
			{Name: "zero", Result: typ("V"), Body: expr("ctor2'V'")},
			{Params: fields("self", "ref Main", "k", "int", "s", "text"), Result: typ("bool"), Slots: 3, Body: expr("eq(local0 call4)")},
			{Name: "r", Result: typ("ref Main"), Slots: 0, Body: expr("call4")},
		},
		Actors: []api.Actor{
			{Name: "Main", Vars: []api.Var{{Name: "n", Type: typ("int"), Init: expr("int0")}, {Name: "l", Type: typ("[int]"), Init: expr("list")}, {Name: "v", Type: typ("V"), Init: expr("ctor2'V'")}}, On: []api.Handler{
				{Msg: "Ok", Params: fields("b", "bool"), Slots: 1}, {Msg: "Two", Params: fields("b", "bool", "c", "bool"), Slots: 2},
				{Msg: "None"}, {Msg: "Reply", Params: fields("t", "text"), Slots: 1}, {Msg: "Told", Params: fields("u", "[V]"), Slots: 2},
			}, Policy: api.PoRestart, Most: 3},
			{Name: "W", Params: fields("k", "int", "m", "ref Main"), Slots: 4, Vars: []api.Var{{Name: "k", Type: typ("int"), Init: expr("let2(int1 add(local0 local2))")}}, On: []api.Handler{
				{Msg: "Do", Params: fields("x", "int", "y", "text"), Slots: 3, Body: block("set0(local0)")}, {Msg: "End", Body: block("stop")},
			}},
		},
	}
}

// compiled returns the program of a source without errors.
func compiled(t testing.TB, source string) api.Prog {
	t.Helper()
	p, e, at := check.Check(source)
	if e != api.OK {
		t.Fatalf("%s: error %d at %d: ^%s", source, e, at, source[at:])
	}
	return p
}

// right checks whether a program is valid by all functions to which that matters.
func right(t testing.TB, p api.Prog, want bool, message ...any) {
	t.Helper()
	before := printed(p)
	s := core.Bytes(p)
	name := "Main"
	if len(p.Actors) > 0 {
		name = p.Actors[0].Name
	}
	if got := core.Right(p); got != want || (s != "") != want || (core.Digest(p, name) != api.Digest{}) != want {
		t.Errorf("%s: valid: %v, %d bytes; want %v", fmt.Sprint(message...), got, len(s), want)
	}
	if q, ok := core.Read(s); ok != want || want && printed(q) != before || !want && printed(q) != printed(api.Prog{}) {
		t.Errorf("%s: read as %v, %+v", fmt.Sprint(message...), ok, q)
	}
	// The bytes that Bytes would return are not read either.
	if q, ok := core.Read(serialized(p)); ok != want || !want && printed(q) != printed(api.Prog{}) {
		t.Errorf("%s: its bytes are read as %v, %+v", fmt.Sprint(message...), ok, q)
	}
	if printed(p) != before {
		t.Errorf("%s: the argument has changed", fmt.Sprint(message...))
	}
}

// printed shows all fields of a value; nil and empty slices are alike.
func printed(x any) string { return fmt.Sprintf("%+v", x) }

// copied copies a value at every depth.
func copied[T any](x T) T {
	v := reflect.ValueOf(&x).Elem()
	copyWithin(v)
	return x
}

func copyWithin(v reflect.Value) {
	switch v.Kind() {
	case reflect.Slice:
		if v.IsNil() {
			return
		}
		l := reflect.MakeSlice(v.Type(), v.Len(), v.Len())
		reflect.Copy(l, v)
		v.Set(l)
		for k := range v.Len() {
			copyWithin(v.Index(k))
		}
	case reflect.Struct:
		for k := range v.NumField() {
			copyWithin(v.Field(k))
		}
	}
}

// region is the memory of a slice, with the elements beyond its length.
type region struct{ from, to uintptr }

func regions(v reflect.Value) []region {
	var l []region
	switch v.Kind() {
	case reflect.Slice:
		if size := uintptr(v.Cap()) * v.Type().Elem().Size(); size > 0 {
			l = append(l, region{v.Pointer(), v.Pointer() + size})
		}
		for k := range v.Len() {
			l = append(l, regions(v.Index(k))...)
		}
	case reflect.Struct:
		for k := range v.NumField() {
			l = append(l, regions(v.Field(k))...)
		}
	}
	return l
}

// unshared checks that no two slices in values share memory.
func unshared(t *testing.T, values ...any) {
	t.Helper()
	var l []region
	for _, x := range values {
		l = append(l, regions(reflect.ValueOf(x))...)
	}
	slices.SortFunc(l, func(a, b region) int { return int(a.from) - int(b.from) })
	for k := 1; k < len(l); k++ {
		if l[k-1].to > l[k].from {
			t.Fatal("slices share memory")
		}
	}
}

// parts calls a function with each number, string, bool, slice and struct within the value that a pointer points to.
func parts(pointer any, visit func(v reflect.Value)) { partsOf(reflect.ValueOf(pointer).Elem(), visit) }

func partsOf(v reflect.Value, visit func(v reflect.Value)) {
	visit(v)
	switch v.Kind() {
	case reflect.Slice:
		for k := range v.Len() {
			partsOf(v.Index(k), visit)
		}
	case reflect.Struct:
		for k := range v.NumField() {
			partsOf(v.Field(k), visit)
		}
	}
}

// spoil changes every number, string and bool within the value that a pointer points to.
func spoil(pointer any) {
	parts(pointer, func(v reflect.Value) {
		switch v.Kind() {
		case reflect.Int:
			v.SetInt(v.Int() + 1)
		case reflect.String:
			v.SetString(v.String() + "!")
		case reflect.Bool:
			v.SetBool(!v.Bool())
		}
	})
}

// withRoom copies a program so that each slice in it has an element beyond its length, which is spoiled. It also returns a function that tells for each of these elements whether it is as it was.
func withRoom(p api.Prog) (api.Prog, func() []bool) {
	p = copied(p)
	var beyond []reflect.Value
	var before []string
	parts(&p, func(v reflect.Value) {
		if v.Kind() != reflect.Slice {
			return
		}
		l := reflect.MakeSlice(v.Type(), v.Len()+1, v.Len()+1)
		reflect.Copy(l, v)
		last := l.Index(v.Len())
		spoil(last.Addr().Interface())
		beyond, before = append(beyond, last), append(before, printed(last.Interface()))
		v.Set(l.Slice(0, v.Len()))
	})
	return p, func() []bool {
		var same []bool
		for k, v := range beyond {
			same = append(same, printed(v.Interface()) == before[k])
		}
		return same
	}
}
