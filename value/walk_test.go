package value_test

import (
	"math"
	"math/rand"
	"reflect"
	"strings"
	"testing"

	"retroact/api"
	"retroact/value"
)

// walker makes and changes values in arbitrary ways.
type walker struct{ *rand.Rand }

func newWalker(seed int64) walker { return walker{rand.New(rand.NewSource(seed))} }

func pick[T any](w walker, l ...T) T { return l[w.Intn(len(l))] }

func (w walker) number() int {
	return pick(w, 0, 0, 1, 1, 2, 3, -1, w.Intn(20)-10, 4096, 4097, api.MaxNum, api.MaxNum+1, -api.MaxNum, -api.MaxNum-1, math.MaxInt, math.MinInt, w.Int())
}

func (w walker) string() string {
	return pick(w, "", "", "A", "P", "Main", "V_1", "a", "true", "0", "0.1", "0.12.3", "0.01", "a\"b", "\n", "\\", "\t\t", "1, 2", "]", string([]byte{byte(w.Intn(256)), byte(w.Intn(256))}))
}

// value returns a value that is often valid, of at most some depth.
func (w walker) value(depth int) api.Value {
	if w.Intn(20) == 0 {
		return api.Value{Kind: w.Intn(12), T: w.string(), N: w.number(), M: w.number(), S: w.string(), L: w.list(depth)}
	}
	name := pick(w, "A", "A", "P", "Main", "Z_9")
	switch 1 + w.Intn(10) {
	case api.VUnit:
		return unit()
	case api.VBool:
		return truth(w.Intn(2))
	case api.VInt:
		return integer(pick(w, 0, 1, -1, w.Intn(100), api.MaxNum, -w.Intn(api.MaxNum)))
	case api.VText:
		return text(w.string())
	case api.VList:
		return list(w.list(depth)...)
	case api.VRec:
		return record(name, w.list(depth)...)
	case api.VVar:
		return variant(name, pick(w, 0, 1, 12, 4096), w.list(depth)...)
	case api.VRef:
		return reference(name, pick(w, "0", "0.1", "0.10.2"))
	case api.VFun:
		return closure(w.Intn(3), w.list(depth)...)
	}
	n := w.Intn(10) - 5
	return span(n, n+1+w.Intn(3))
}

func (w walker) list(depth int) []api.Value {
	if depth == 0 {
		return nil
	}
	var l []api.Value
	for range w.Intn(4) {
		l = append(l, w.value(depth-1))
	}
	return l
}

// change changes one part of a value.
func (w walker) change(v *api.Value) {
	var l []reflect.Value
	parts(v, func(part reflect.Value) { l = append(l, part) })
	switch part := pick(w, l...).Addr().Interface().(type) {
	case *int:
		*part = w.number()
	case *string:
		*part = w.string()
	case *api.Value:
		*part = w.value(2)
	case *[]api.Value:
		*part = w.list(2)
	}
}

// P12.1 to P12.3, P12.6: arbitrary values, changed step by step, against the model.
func TestWalks(t *testing.T) {
	valid, plain := 0, 0
	for seed := range int64(300) {
		w := newWalker(seed)
		v := w.value(4)
		for range 40 {
			agree(t, v)
			if modelRight(v) {
				valid++
			}
			if modelPlain(v) {
				plain++
			}
			w.change(&v)
			if value.Nodes(v) > 300 || !modelRight(v) && w.Intn(2) == 0 {
				v = w.value(4)
			}
		}
	}
	if valid < 4000 || plain < 2000 {
		t.Error("only", valid, "valid and", plain, "plain values")
	}
}

// P12.2, P12.6: the forms of arbitrary values, changed in one or two places, are parsed only if they are forms again.
func TestChangedForms(t *testing.T) {
	parsed := 0
	for seed := range int64(4000) {
		w := newWalker(seed)
		v := w.value(4)
		form := modelForm(v)
		for range 8 {
			s := w.damaged(form)
			got, ok := value.Parse(s)
			if ok {
				parsed++
			}
			if ok && (!modelPlain(got) || modelForm(got) != s) || !ok && !equal(got, api.Value{}) {
				t.Errorf("%q is parsed as %s, %v", s, shortened(got), ok)
			}
			if want := modelParses(s); ok != want {
				t.Errorf("%q is parsed: %v, want %v", s, ok, want)
			}
		}
	}
	if parsed < 2000 {
		t.Error("only", parsed, "forms")
	}
}

// P12.3, P12.6: the bytes of arbitrary values, changed in one or two places, are read only if they are the bytes of a valid value again.
func TestChangedBytes(t *testing.T) {
	read := 0
	for seed := range int64(4000) {
		w := newWalker(seed)
		b := modelBytes(w.value(4))
		for range 8 {
			s := w.damaged(b)
			want, size, ok := modelRead(s)
			reads(t, s, ok, want, len(s)-size)
			if ok {
				read++
			}
		}
	}
	if read < 2000 {
		t.Error("only", read, "values")
	}
}

// damaged changes, removes, doubles or inserts some bytes of a string.
func (w walker) damaged(s string) string {
	for range 1 + w.Intn(2) {
		from := w.Intn(len(s) + 1)
		to := min(len(s), from+w.Intn(3))
		piece := pick(w, "", string([]byte{byte(w.Intn(256))}), strings.Repeat(s[from:to], 2), "\x80", "\x00", " ", ", ", "()", "[]", "A", "0", "1", ".", "-", "\\", "\"", "]")
		s = s[:from] + piece + s[to:]
	}
	return s
}
