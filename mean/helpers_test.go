package mean_test

import (
	"fmt"
	"reflect"
	"runtime/debug"
	"slices"
	"strings"
	"sync"
	"testing"

	"retroact/api"
	"retroact/check"
	"retroact/core"
	"retroact/mean"
	"retroact/syntax"
	"retroact/types"
	"retroact/value"
)

// TestMain lets the garbage of many small programs be collected less often, which makes the tests several times as fast.
func TestMain(m *testing.M) {
	debug.SetGCPercent(1000)
	m.Run()
}

func unit() api.Value { return api.Value{Kind: api.VUnit} }

func truth(n int) api.Value { return api.Value{Kind: api.VBool, N: n} }

func integer(n int) api.Value { return api.Value{Kind: api.VInt, N: n} }

func text(s string) api.Value { return api.Value{Kind: api.VText, S: s} }

func list(l ...api.Value) api.Value { return api.Value{Kind: api.VList, L: l} }

func record(name string, l ...api.Value) api.Value { return api.Value{Kind: api.VRec, T: name, L: l} }

func variant(name string, n int, l ...api.Value) api.Value {
	return api.Value{Kind: api.VVar, T: name, N: n, L: l}
}

func reference(name, path string) api.Value { return api.Value{Kind: api.VRef, T: name, S: path} }

func closure(n int, l ...api.Value) api.Value { return api.Value{Kind: api.VFun, N: n, L: l} }

func span(n, m int) api.Value { return api.Value{Kind: api.VSpan, N: n, M: m} }

// many returns a number of equal values.
func many(count int, v api.Value) []api.Value {
	l := make([]api.Value, count)
	for k := range l {
		l[k] = copied(v)
	}
	return l
}

// zeros returns a list of a number of integers.
func zeros(count int) api.Value { return list(many(count, integer(0))...) }

// nodes returns a list of lists of integers with a number of nodes.
func nodes(count int) api.Value {
	l := list()
	for left := count - 1; left > 0; {
		size := min(left, 4001)
		l.L = append(l.L, zeros(size-1))
		left -= size
	}
	if value.Nodes(l) != count {
		panic(fmt.Sprint(count, " nodes: ", value.Nodes(l)))
	}
	return l
}

// plain returns the value of a form such as `[1, "a"]`.
func plain(form string) api.Value {
	v, ok := value.Parse(form)
	if !ok {
		panic("no form of a value: " + form)
	}
	return v
}

// plains returns the values of several forms.
func plains(forms ...string) []api.Value {
	var l []api.Value
	for _, form := range forms {
		l = append(l, plain(form))
	}
	return l
}

// shown returns the forms of values, with a space between them.
func shown(vs []api.Value) string {
	var l []string
	for _, v := range vs {
		l = append(l, value.Show(v))
	}
	return strings.Join(l, " ")
}

// parsedTypes holds the types of forms that have been parsed.
var parsedTypes sync.Map

// typ returns the type of a form such as `[int]`.
func typ(form string) api.Type {
	if t, found := parsedTypes.Load(form); found {
		return copied(t.(api.Type))
	}
	n, e, at := syntax.Parse("effect e(): " + form)
	if e != api.OK {
		panic(fmt.Sprint(form, ": error ", e, " at ", at))
	}
	t, _ := types.Read(n.Kids[0].Kids[0])
	parsedTypes.Store(form, t)
	return copied(t)
}

// fields takes names and forms of types in turn.
func fields(l ...string) []api.Field {
	var all []api.Field
	for k := 0; k < len(l); k += 2 {
		all = append(all, api.Field{Name: l[k], Type: typ(l[k+1])})
	}
	return all
}

// compiled returns the program of a source without errors.
func compiled(t testing.TB, source string) api.Prog {
	t.Helper()
	p, e, at := check.Check(source)
	if e != api.OK {
		t.Fatalf("%s: error %d at %d: ^%s", source, e, at, source[at:])
	}
	return p
}

// valid checks that a program by hand is valid.
func valid(t testing.TB, p api.Prog) api.Prog {
	t.Helper()
	if !core.Right(p) {
		t.Fatalf("a program is not valid: %.2000s", printed(p))
	}
	return p
}

// printed shows all fields of a value; nil and empty slices are alike.
func printed(x any) string { return fmt.Sprintf("%+v", x) }

// shortened shows the beginning of what is printed of a value.
func shortened(x any) string {
	s := printed(x)
	return s[:min(len(s), 1000)]
}

// notCall is the result of a call that does not fit.
func notCall() api.Result { return api.Result{Fault: api.FFail, Why: "call"} }

// fails is a result with a fault that is not FFail.
func fails(kind, used int) api.Result { return api.Result{Fault: kind, Used: used} }

// gives checks the result of a call that fits.
func gives(t testing.TB, p api.Prog, c api.Call, want api.Result, message ...any) {
	t.Helper()
	if !mean.Fits(p, c) {
		t.Errorf("%s: the call does not fit", fmt.Sprint(message...))
	}
	if got := mean.Run(p, c); printed(got) != printed(want) || !mean.Same(got, want) {
		t.Errorf("%s: %s; want %s", fmt.Sprint(message...), shortened(got), shortened(want))
	}
}

// copied copies a value of any type at every depth.
func copied[T any](x T) T {
	v := reflect.ValueOf(&x).Elem()
	copyWithin(v)
	return x
}

func copyWithin(v reflect.Value) {
	switch v.Kind() {
	case reflect.Slice:
		if v.IsNil() {
			return
		}
		l := reflect.MakeSlice(v.Type(), v.Len(), v.Len())
		reflect.Copy(l, v)
		v.Set(l)
		for k := range v.Len() {
			copyWithin(v.Index(k))
		}
	case reflect.Struct:
		for k := range v.NumField() {
			copyWithin(v.Field(k))
		}
	}
}

// region is the memory of a slice, with the elements beyond its length.
type region struct{ from, to uintptr }

func regions(v reflect.Value) []region {
	var l []region
	switch v.Kind() {
	case reflect.Slice:
		if size := uintptr(v.Cap()) * v.Type().Elem().Size(); size > 0 {
			l = append(l, region{v.Pointer(), v.Pointer() + size})
		}
		for k := range v.Len() {
			l = append(l, regions(v.Index(k))...)
		}
	case reflect.Struct:
		for k := range v.NumField() {
			l = append(l, regions(v.Field(k))...)
		}
	}
	return l
}

// unshared checks that no two slices in values share memory.
func unshared(t *testing.T, values ...any) {
	t.Helper()
	var l []region
	for _, x := range values {
		l = append(l, regions(reflect.ValueOf(x))...)
	}
	slices.SortFunc(l, func(a, b region) int { return int(a.from) - int(b.from) })
	for k := 1; k < len(l); k++ {
		if l[k-1].to > l[k].from {
			t.Fatal("slices share memory")
		}
	}
}

// parts calls a function with each number, string, bool, slice and struct within the value that a pointer points to.
func parts(pointer any, visit func(v reflect.Value)) { partsOf(reflect.ValueOf(pointer).Elem(), visit) }

func partsOf(v reflect.Value, visit func(v reflect.Value)) {
	visit(v)
	switch v.Kind() {
	case reflect.Slice:
		for k := range v.Len() {
			partsOf(v.Index(k), visit)
		}
	case reflect.Struct:
		for k := range v.NumField() {
			partsOf(v.Field(k), visit)
		}
	}
}

// spoil changes every number, string and bool within the value that a pointer points to.
func spoil(pointer any) {
	parts(pointer, func(v reflect.Value) {
		switch v.Kind() {
		case reflect.Int:
			v.SetInt(v.Int() + 1)
		case reflect.String:
			v.SetString(v.String() + "!")
		case reflect.Bool:
			v.SetBool(!v.Bool())
		}
	})
}

// withRoom copies a value of any type so that each slice in it has two elements beyond its length, which are spoiled. It also returns a function that reports whether these elements are as they were.
func withRoom[T any](x T) (T, func() bool) {
	x = copied(x)
	var beyond []reflect.Value
	var before []string
	parts(&x, func(v reflect.Value) {
		if v.Kind() != reflect.Slice {
			return
		}
		l := reflect.MakeSlice(v.Type(), v.Len()+2, v.Len()+2)
		reflect.Copy(l, v)
		for k := range 2 {
			spare := l.Index(v.Len() + k)
			spoil(spare.Addr().Interface())
			beyond, before = append(beyond, spare), append(before, printed(spare.Interface()))
		}
		v.Set(l.Slice(0, v.Len()))
	})
	return x, func() bool {
		for k, v := range beyond {
			if printed(v.Interface()) != before[k] {
				return false
			}
		}
		return true
	}
}
