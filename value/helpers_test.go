package value_test

import (
	"fmt"
	"reflect"
	"runtime/debug"
	"slices"
	"strings"
	"testing"

	"retroact/api"
	"retroact/check"
	"retroact/code"
	"retroact/value"
)

// TestMain lets the garbage of many small values be collected less often, which makes the tests several times as fast.
func TestMain(m *testing.M) {
	debug.SetGCPercent(1000)
	m.Run()
}

func unit() api.Value { return api.Value{Kind: api.VUnit} }

func truth(n int) api.Value { return api.Value{Kind: api.VBool, N: n} }

func integer(n int) api.Value { return api.Value{Kind: api.VInt, N: n} }

func text(s string) api.Value { return api.Value{Kind: api.VText, S: s} }

func list(l ...api.Value) api.Value { return api.Value{Kind: api.VList, L: l} }

func record(name string, l ...api.Value) api.Value { return api.Value{Kind: api.VRec, T: name, L: l} }

func variant(name string, n int, l ...api.Value) api.Value {
	return api.Value{Kind: api.VVar, T: name, N: n, L: l}
}

func reference(name, path string) api.Value { return api.Value{Kind: api.VRef, T: name, S: path} }

func closure(n int, l ...api.Value) api.Value { return api.Value{Kind: api.VFun, N: n, L: l} }

func span(n, m int) api.Value { return api.Value{Kind: api.VSpan, N: n, M: m} }

// many returns a number of equal values.
func many(count int, v api.Value) []api.Value {
	l := make([]api.Value, count)
	for k := range l {
		l[k] = copied(v)
	}
	return l
}

// nested puts a value into the containers in turn, the last of which is the outermost.
func nested(v api.Value, containers ...func(l ...api.Value) api.Value) api.Value {
	for _, within := range containers {
		v = within(v)
	}
	return v
}

// containers are the forms of values with elements, with the value at the beginning, in the middle and at the end.
func containers() []func(l ...api.Value) api.Value {
	return []func(l ...api.Value) api.Value{
		func(l ...api.Value) api.Value { return list(l...) },
		func(l ...api.Value) api.Value { return record("P", append(l, integer(1))...) },
		func(l ...api.Value) api.Value { return variant("V", 1, append([]api.Value{unit()}, l...)...) },
		func(l ...api.Value) api.Value { return list(append([]api.Value{list(), text("a")}, l...)...) },
	}
}

// compiled returns the program of a source without errors.
func compiled(t testing.TB, source string) api.Prog {
	t.Helper()
	p, e, at := check.Check(source)
	if e != api.OK {
		t.Fatalf("%s: error %d at %d: ^%s", source, e, at, source[at:])
	}
	return p
}

// printed shows all fields of a value; nil and empty slices are alike.
func printed(x any) string { return fmt.Sprintf("%+v", x) }

// shortened shows the beginning of what is printed of a value.
func shortened(x any) string {
	s := printed(x)
	return s[:min(len(s), 300)]
}

// agree checks the functions of one value against the model.
func agree(t testing.TB, v api.Value) {
	t.Helper()
	before := modelTokens(v)
	right := modelRight(v)
	if got := value.Right(v); got != right {
		t.Errorf("%s: valid: %v, want %v", shortened(v), got, right)
	}
	if got, want := value.Nodes(v), len(modelNodes(v)); got != want {
		t.Errorf("%s: %d nodes, want %d", shortened(v), got, want)
	}
	agreeOnForm(t, v)
	agreeOnBytes(t, v)
	if !slices.Equal(modelTokens(v), before) {
		t.Errorf("%s: the argument has changed", shortened(v))
	}
}

func agreeOnForm(t testing.TB, v api.Value) {
	t.Helper()
	plain, form := modelPlain(v), modelForm(v)
	want := form
	if !plain {
		want = ""
	}
	if got := value.Show(v); got != want {
		t.Errorf("%s: shown as %.100q, want %.100q", shortened(v), got, want)
	}
	// What a value that is not plain would look like has no value either, unless it is the form of another one.
	got, ok := value.Parse(form)
	switch {
	case plain && (!ok || !equal(got, v)):
		t.Errorf("%.100q is parsed as %s, %v", form, shortened(got), ok)
	case ok && (!modelPlain(got) || modelForm(got) != form):
		t.Errorf("%.100q is parsed as %s", form, shortened(got))
	case !ok && !equal(got, api.Value{}):
		t.Errorf("%.100q is not parsed, with %s", form, shortened(got))
	}
}

func agreeOnBytes(t testing.TB, v api.Value) {
	t.Helper()
	right, b := modelRight(v), modelBytes(v)
	want := b
	if !right {
		want = ""
	}
	if got := value.Bytes(v); got != want {
		t.Errorf("%s: the bytes %.100q, want %.100q", shortened(v), got, want)
	}
	for _, rest := range []string{"", "\x00", "\x80", "rest", b[:min(len(b), 1000)]} {
		reads(t, b+rest, right, v, len(rest))
	}
}

// reads checks what Read does with some input: it reads a value and leaves a number of bytes, or it fails.
func reads(t testing.TB, s string, want bool, v api.Value, left int) {
	t.Helper()
	r := code.Open(s)
	got, ok := value.Read(r)
	switch {
	case ok != want:
		t.Errorf("%.100q: read: %v, want %v", s, ok, want)
	case ok && (!equal(got, v) || r.Left() != left || r.Done() != (left == 0)):
		t.Errorf("%.100q: read as %s, %d bytes left, done %v; want %s, %d left", s, shortened(got), r.Left(), r.Done(), shortened(v), left)
	case !ok && (!equal(got, api.Value{}) || r.Left() != 0 || r.Done() || r.Num() != 0 || r.Done()):
		t.Errorf("%.100q: not read, with %s, %d bytes left, done %v", s, shortened(got), r.Left(), r.Done())
	}
}

// copied copies a value of any type at every depth.
func copied[T any](x T) T {
	v := reflect.ValueOf(&x).Elem()
	copyWithin(v)
	return x
}

func copyWithin(v reflect.Value) {
	switch v.Kind() {
	case reflect.Slice:
		if v.IsNil() {
			return
		}
		l := reflect.MakeSlice(v.Type(), v.Len(), v.Len())
		reflect.Copy(l, v)
		v.Set(l)
		for k := range v.Len() {
			copyWithin(v.Index(k))
		}
	case reflect.Struct:
		for k := range v.NumField() {
			copyWithin(v.Field(k))
		}
	}
}

// parts calls a function with each number, string, bool, slice and struct within the value that a pointer points to.
func parts(pointer any, visit func(v reflect.Value)) { partsOf(reflect.ValueOf(pointer).Elem(), visit) }

func partsOf(v reflect.Value, visit func(v reflect.Value)) {
	visit(v)
	switch v.Kind() {
	case reflect.Slice:
		for k := range v.Len() {
			partsOf(v.Index(k), visit)
		}
	case reflect.Struct:
		for k := range v.NumField() {
			partsOf(v.Field(k), visit)
		}
	}
}

// spoil changes every number, string and bool within the value that a pointer points to.
func spoil(pointer any) {
	parts(pointer, func(v reflect.Value) {
		switch v.Kind() {
		case reflect.Int:
			v.SetInt(v.Int() + 1)
		case reflect.String:
			v.SetString(v.String() + "!")
		case reflect.Bool:
			v.SetBool(!v.Bool())
		}
	})
}

// valids are valid values of each form, with their fields within and at their bounds.
func valids() []api.Value {
	long := strings.Repeat("x", api.MaxText)
	l := []api.Value{
		unit(), truth(0), truth(1),
		integer(0), integer(1), integer(-1), integer(api.MaxNum), integer(-api.MaxNum), integer(1234567890),
		text(""), text("a"), text("a\n\t\"\\\x00\xff"), text(long), text(long[1:]), text("\xc3\xa4"),
		list(), list(integer(1)), list(integer(1), text("a"), list()), list(list(list())), list(many(api.MaxList, unit())...), list(many(api.MaxList-1, truth(1))...),
		record("P"), record("P", integer(1)), record("A_9z", unit(), record("P"), list()), record("Z"), record("P", many(api.MaxList+1, unit())...),
		variant("V", 0), variant("V", 1), variant("V", 4095), variant("V", 4096), variant("V", 12, truth(1)), variant("B", 0, variant("B", 1), integer(-5)), variant("V", 4096, many(api.MaxList+1, unit())...),
		reference("Main", "0"), reference("A_1", "0.10.2"), reference("A", "0"+strings.Repeat(".1", 98)+".12"), reference("A", "0.9007199254740992"),
		closure(0), closure(1), closure(api.MaxNum), closure(5, integer(1), reference("A", "0")), closure(2, closure(3), span(0, 1)), closure(0, many(api.MaxList+1, unit())...),
		span(0, 1), span(-1, 0), span(-api.MaxNum, api.MaxNum), span(api.MaxNum-1, api.MaxNum), span(-api.MaxNum, 1-api.MaxNum), span(-5, 7),
		list(span(3, 4), closure(1)), record("P", span(3, 4)), variant("V", 0, closure(1)),
	}
	for _, within := range containers() {
		for _, v := range []api.Value{unit(), text("\"], \""), list(integer(1), integer(2)), record("P", text("}")), variant("V", 0), reference("A", "0.1"), integer(-7)} {
			l = append(l, within(v))
		}
	}
	return l
}
