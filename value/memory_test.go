package value_test

import (
	"reflect"
	"slices"
	"strings"
	"testing"

	"retroact/api"
	"retroact/code"
	"retroact/value"
)

// region is the memory of a slice, with the elements beyond its length.
type region struct{ from, to uintptr }

func regions(v reflect.Value) []region {
	var l []region
	switch v.Kind() {
	case reflect.Slice:
		if size := uintptr(v.Cap()) * v.Type().Elem().Size(); size > 0 {
			l = append(l, region{v.Pointer(), v.Pointer() + size})
		}
		for k := range v.Len() {
			l = append(l, regions(v.Index(k))...)
		}
	case reflect.Struct:
		for k := range v.NumField() {
			l = append(l, regions(v.Field(k))...)
		}
	}
	return l
}

// unshared checks that no two slices in values share memory.
func unshared(t *testing.T, values ...any) {
	t.Helper()
	var l []region
	for _, x := range values {
		l = append(l, regions(reflect.ValueOf(x))...)
	}
	slices.SortFunc(l, func(a, b region) int { return int(a.from) - int(b.from) })
	for k := 1; k < len(l); k++ {
		if l[k-1].to > l[k].from {
			t.Fatal("slices share memory")
		}
	}
}

// withRoom copies a value of any type so that each slice in it has an element beyond its length, which is spoiled. It also returns a function that reports whether these elements are as they were.
func withRoom[T any](x T) (T, func() bool) {
	x = copied(x)
	var beyond []reflect.Value
	var before []string
	parts(&x, func(v reflect.Value) {
		if v.Kind() != reflect.Slice {
			return
		}
		l := reflect.MakeSlice(v.Type(), v.Len()+1, v.Len()+1)
		reflect.Copy(l, v)
		last := l.Index(v.Len())
		spoil(last.Addr().Interface())
		beyond, before = append(beyond, last), append(before, printed(last.Interface()))
		v.Set(l.Slice(0, v.Len()))
	})
	return x, func() bool {
		for k, v := range beyond {
			if printed(v.Interface()) != before[k] {
				return false
			}
		}
		return true
	}
}

// P12.5, P3: the functions leave their arguments as they are, and neither read nor write what lies beyond the length of a slice.
func TestArguments(t *testing.T) {
	l := append(valids(), api.Value{}, api.Value{Kind: 99, L: []api.Value{{}, unit()}}, integer(1<<60), list(span(2, 1)))
	for _, v := range l {
		if value.Nodes(v) > 100 {
			continue
		}
		roomy, same := withRoom(v)
		before := printed(roomy)
		agree(t, roomy)
		for _, other := range l[:40] {
			if value.Compare(roomy, other) != value.Compare(v, other) || value.Compare(other, roomy) != value.Compare(other, v) || value.Equal(roomy, other) != value.Equal(v, other) || value.Same(roomy.L, other.L) != value.Same(v.L, other.L) {
				t.Errorf("%s: compared with what is beyond a slice", shortened(v))
			}
		}
		if !same() || printed(roomy) != before {
			t.Errorf("%s has changed", shortened(v))
		}
	}
}

// P12.5, P3: the same for the arguments of Fits and All.
func TestArgumentsOfFits(t *testing.T) {
	p, sameProgram := withRoom(base())
	program := printed(p)
	for _, x := range belonging {
		v, sameValue := withRoom(x.v)
		for _, form := range someTypes {
			y, sameType := withRoom(typ(form))
			vs, sameValues := withRoom([]api.Value{v, integer(1), v})
			fs, sameFields := withRoom([]api.Field{{Name: "a", Type: y}, {Type: typ("int")}, {Type: y}})
			before := printed([]any{v, y, vs, fs})
			want := modelFits(base(), x.v, typ(form))
			if value.Fits(p, v, y) != want || value.All(p, vs, fs) != want || value.All(p, vs[:1], fs[:1]) != want || value.All(p, vs[:1], fs[:2]) {
				t.Errorf("%s belongs to %s: %v", shortened(v), form, !want)
			}
			if !sameValue() || !sameType() || !sameValues() || !sameFields() || printed([]any{v, y, vs, fs}) != before {
				t.Errorf("%s, %s: an argument has changed", shortened(v), form)
			}
		}
	}
	if !sameProgram() || printed(p) != program {
		t.Error("the program has changed")
	}
}

// P12.5, P3: results share no memory with each other or anything else, so that changing them changes nothing else.
func TestResults(t *testing.T) {
	for _, v := range valids() {
		if value.Nodes(v) > 5000 {
			continue
		}
		form, b := value.Show(v), value.Bytes(v)
		if form != "" {
			first, _ := value.Parse(form)
			second, _ := value.Parse(form)
			unshared(t, v, first, second)
			spoil(&first)
			third, ok := value.Parse(form)
			if !ok || !equal(second, v) || !equal(third, v) || equal(first, v) {
				t.Errorf("%s is parsed as %s", form, shortened(third))
			}
		}
		r := code.Open(b + b)
		first, _ := value.Read(r)
		second, _ := value.Read(r)
		unshared(t, v, first, second)
		spoil(&first)
		third, ok := value.Read(code.Open(b))
		if !ok || !equal(second, v) || !equal(third, v) || equal(first, v) {
			t.Errorf("%s is read as %s", shortened(v), shortened(third))
		}
	}
}

// P12.5: a slice that is changed after a call changes no result of it.
func TestChangedArguments(t *testing.T) {
	v := list(integer(1), text("a"), list(truth(1)))
	form, b := value.Show(v), value.Bytes(v)
	spoil(&v)
	if form != `[1, "a", [true]]` || b == value.Bytes(v) || !strings.HasPrefix(b, "\x05") {
		t.Error("a result has changed")
	}
	p := base()
	x := typ("[P]")
	w := list(record("P", integer(1)))
	if !value.Fits(p, w, x) {
		t.Error("the value does not belong to the type")
	}
	p.Types[0].Ctors[0].Fields[0].Type = typ("text")
	if value.Fits(p, w, x) || !value.Fits(base(), w, x) {
		t.Error("an earlier program counts")
	}
}

// P4: calls in another order, and many at the same time, have the same results.
func TestSameResults(t *testing.T) {
	l := valids()
	done := make(chan bool)
	for k := range 4 {
		go func() {
			defer func() { done <- true }()
			for j := range l {
				v := l[(j*7+k*11)%len(l)]
				if value.Nodes(v) < 100 {
					agree(t, v)
				}
			}
		}()
	}
	for range 4 {
		<-done
	}
}
