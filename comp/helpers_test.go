package comp_test

import (
	"fmt"
	"reflect"
	"runtime/debug"
	"slices"
	"sync"
	"testing"

	"retroact/api"
	"retroact/check"
	"retroact/core"
	"retroact/syntax"
	"retroact/types"
)

// TestMain lets the garbage of many small programs be collected less often, which makes the tests several times as fast.
func TestMain(m *testing.M) {
	debug.SetGCPercent(1000)
	m.Run()
}

// parsedTypes holds the types of forms that have been parsed.
var parsedTypes sync.Map

// typ returns the type of a form such as `[int]`.
func typ(form string) api.Type {
	if t, found := parsedTypes.Load(form); found {
		return copied(t.(api.Type))
	}
	n, e, at := syntax.Parse("effect e(): " + form)
	if e != api.OK {
		panic(fmt.Sprint(form, ": error ", e, " at ", at))
	}
	t, _ := types.Read(n.Kids[0].Kids[0])
	parsedTypes.Store(form, t)
	return copied(t)
}

// fields takes names and forms of types in turn.
func fields(l ...string) []api.Field {
	var all []api.Field
	for k := 0; k < len(l); k += 2 {
		all = append(all, api.Field{Name: l[k], Type: typ(l[k+1])})
	}
	return all
}

// compiled returns the program of a source without errors.
func compiled(t testing.TB, source string) api.Prog {
	t.Helper()
	p, e, at := check.Check(source)
	if e != api.OK {
		t.Fatalf("%s: error %d at %d: ^%s", source, e, at, source[at:])
	}
	return p
}

// valid checks that a program by hand is valid.
func valid(t testing.TB, p api.Prog) api.Prog {
	t.Helper()
	if !core.Right(p) {
		t.Fatalf("a program is not valid: %.2000s", printed(p))
	}
	return p
}

// printed shows all fields of a value; nil and empty slices are alike.
func printed(x any) string { return fmt.Sprintf("%+v", x) }

// shortened shows the beginning of what is printed of a value.
func shortened(x any) string {
	s := printed(x)
	return s[:min(len(s), 1000)]
}

// copied copies a value of any type at every depth.
func copied[T any](x T) T {
	v := reflect.ValueOf(&x).Elem()
	copyWithin(v)
	return x
}

func copyWithin(v reflect.Value) {
	switch v.Kind() {
	case reflect.Slice:
		if v.IsNil() {
			return
		}
		l := reflect.MakeSlice(v.Type(), v.Len(), v.Len())
		reflect.Copy(l, v)
		v.Set(l)
		for k := range v.Len() {
			copyWithin(v.Index(k))
		}
	case reflect.Struct:
		for k := range v.NumField() {
			copyWithin(v.Field(k))
		}
	}
}

// region is the memory of a slice, with the elements beyond its length.
type region struct{ from, to uintptr }

func regions(v reflect.Value) []region {
	var l []region
	switch v.Kind() {
	case reflect.Slice:
		if size := uintptr(v.Cap()) * v.Type().Elem().Size(); size > 0 {
			l = append(l, region{v.Pointer(), v.Pointer() + size})
		}
		for k := range v.Len() {
			l = append(l, regions(v.Index(k))...)
		}
	case reflect.Struct:
		for k := range v.NumField() {
			l = append(l, regions(v.Field(k))...)
		}
	}
	return l
}

// unshared checks that no two slices in values share memory.
func unshared(t *testing.T, values ...any) {
	t.Helper()
	var l []region
	for _, x := range values {
		l = append(l, regions(reflect.ValueOf(x))...)
	}
	slices.SortFunc(l, func(a, b region) int { return int(a.from) - int(b.from) })
	for k := 1; k < len(l); k++ {
		if l[k-1].to > l[k].from {
			t.Fatal("slices share memory")
		}
	}
}

// parts calls a function with each number, string, bool, slice and struct within the value that a pointer points to.
func parts(pointer any, visit func(v reflect.Value)) { partsOf(reflect.ValueOf(pointer).Elem(), visit) }

func partsOf(v reflect.Value, visit func(v reflect.Value)) {
	visit(v)
	switch v.Kind() {
	case reflect.Slice:
		for k := range v.Len() {
			partsOf(v.Index(k), visit)
		}
	case reflect.Struct:
		for k := range v.NumField() {
			partsOf(v.Field(k), visit)
		}
	}
}

// spoil changes every number, string and bool within the value that a pointer points to.
func spoil(pointer any) {
	parts(pointer, func(v reflect.Value) {
		switch v.Kind() {
		case reflect.Int:
			v.SetInt(v.Int() + 1)
		case reflect.String:
			v.SetString(v.String() + "!")
		case reflect.Bool:
			v.SetBool(!v.Bool())
		}
	})
}

// withRoom copies a value of any type so that each slice in it has two elements beyond its length, which are spoiled. It also returns a function that reports whether these elements are as they were.
func withRoom[T any](x T) (T, func() bool) {
	x = copied(x)
	var beyond []reflect.Value
	var before []string
	parts(&x, func(v reflect.Value) {
		if v.Kind() != reflect.Slice {
			return
		}
		l := reflect.MakeSlice(v.Type(), v.Len()+2, v.Len()+2)
		reflect.Copy(l, v)
		for k := range 2 {
			spare := l.Index(v.Len() + k)
			spoil(spare.Addr().Interface())
			beyond, before = append(beyond, spare), append(before, printed(spare.Interface()))
		}
		v.Set(l.Slice(0, v.Len()))
	})
	return x, func() bool {
		for k, v := range beyond {
			if printed(v.Interface()) != before[k] {
				return false
			}
		}
		return true
	}
}
