package value_test

import (
	"fmt"
	"math"
	"reflect"
	"testing"

	"retroact/api"
	"retroact/value"
)

// ordered checks the order of two values, in both directions, and whether they are equal, alone and in slices.
func ordered(t *testing.T, a, b api.Value, want int, message ...any) {
	t.Helper()
	got, back := value.Compare(a, b), value.Compare(b, a)
	if got != want || back != -want {
		t.Errorf("%s: Compare is %d and %d, want %d", fmt.Sprint(message...), got, back, want)
	}
	same := want == 0
	for k, equal := range []bool{
		value.Equal(a, b), value.Equal(b, a),
		value.Same([]api.Value{a}, []api.Value{b}), value.Same([]api.Value{unit(), a, {}}, []api.Value{unit(), b, {}}), value.Same([]api.Value{b, b}, []api.Value{b, a}), value.Same([]api.Value{a, b}, []api.Value{b, b}),
	} {
		if equal != same {
			t.Errorf("%s: %d: equal: %v", fmt.Sprint(message...), k, equal)
		}
	}
}

// P12.1: the values of a list that is in order, by hand.
func TestOrder(t *testing.T) {
	l := []api.Value{
		{Kind: math.MinInt}, {Kind: -1, L: []api.Value{unit()}}, {}, {N: 1}, {L: []api.Value{{}}, N: 1}, {T: "A"},
		unit(), {Kind: api.VUnit, S: "a"}, {Kind: api.VUnit, M: 1}, truth(0), truth(1),
		integer(math.MinInt), integer(-300), integer(-5), integer(-1), integer(0), integer(1), integer(2), integer(10), integer(300), integer(math.MaxInt),
		text(""), text("\x00"), text("10"), text("2"), text("A"), text("B"), text("a"), text("a\x00"), text("aa"), text("ab"), text("b"), text("\x7f"), text("\x80"), text("\xc3\xa4"), text("\xff"),
		list(), list(unit()), list(integer(-1)), list(integer(1)), list(integer(1), unit()), list(integer(1), integer(0)), list(integer(1), integer(0), unit()), list(integer(1), integer(2)), list(integer(2)), list(integer(2), unit()), list(text("a")), list(list()), list(list(), unit()), list(list(unit())), list(record("A")),
		record(""), record("A"), record("A", integer(1)), record("A", integer(2), integer(1)), record("A", integer(3)), record("AB"), record("B"), record("B", unit()), record("a"),
		variant("A", -1), variant("A", 0), variant("A", 0, integer(5)), variant("A", 1), variant("A", 2, integer(-5)), variant("A", 10), variant("B", 0),
		reference("A", "0"), reference("A", "0.0"), reference("A", "0.1"), reference("A", "0.10"), reference("A", "0.2"), reference("B", ""),
		closure(0), closure(0, unit()), closure(1), closure(api.MaxNum),
		span(-3, 0), span(-3, 1), span(0, -5), span(0, 5), span(1, 2), {Kind: math.MaxInt},
	}
	for i, a := range l {
		for k, b := range l {
			want := 0
			if i < k {
				want = -1
			} else if i > k {
				want = 1
			}
			ordered(t, copied(a), b, want, i, " and ", k, ": ", shortened(a), ", ", shortened(b))
		}
	}
}

// P12.1: a field is compared before those that follow it in the order Kind, T, N, M, S, L, at each level.
func TestOrderOfFields(t *testing.T) {
	base := api.Value{Kind: 5, T: "M", N: 7, M: 7, S: "m", L: []api.Value{integer(3), integer(3)}}
	greater := []func(v *api.Value){
		func(v *api.Value) { v.Kind++ }, func(v *api.Value) { v.T = "N" }, func(v *api.Value) { v.N++ }, func(v *api.Value) { v.M++ }, func(v *api.Value) { v.S = "n" }, func(v *api.Value) { v.L[0].N++ },
	}
	less := []func(v *api.Value){
		func(v *api.Value) { v.Kind-- }, func(v *api.Value) { v.T = "L" }, func(v *api.Value) { v.N-- }, func(v *api.Value) { v.M-- }, func(v *api.Value) { v.S = "l" }, func(v *api.Value) { v.L[0].N-- },
	}
	// The bits of a choice tell which of the fields behind a greater one are less.
	for field := range greater {
		for choice := range 1 << (len(less) - field - 1) {
			v := copied(base)
			greater[field](&v)
			for later := field + 1; later < len(less); later++ {
				if choice>>(later-field-1)&1 == 1 {
					less[later](&v)
				}
			}
			for depth, pair := range [][2]api.Value{{v, base}, {list(v), list(base)}, {record("P", unit(), v), record("P", unit(), base)}, {list(list(), list(v, integer(0))), list(list(), list(base, integer(9)))}} {
				ordered(t, pair[0], pair[1], 1, "field ", field, ", choice ", choice, ", depth ", depth)
			}
		}
	}
}

// P12.1: lists are compared lexicographically, with a proper prefix first.
func TestPrefixes(t *testing.T) {
	l := []api.Value{integer(5), text("a"), list(unit()), integer(-5), record("P"), unit()}
	for i := range len(l) + 1 {
		for k := range len(l) + 1 {
			want := min(1, max(-1, i-k))
			for _, within := range containers() {
				// What follows the lists has no effect.
				ordered(t, list(list(l[:i]...), integer(k)), list(list(l[:k]...), integer(i)), compared(i-k, k-i), i, " and ", k)
				ordered(t, within(list(l[:i]...)), within(list(l[:k]...)), want, i, " and ", k)
			}
		}
	}
	// A longer list comes first if an element of it is less.
	ordered(t, list(integer(1), integer(2), integer(3)), list(integer(1), integer(3)), -1)
	ordered(t, list(integer(2)), list(integer(1), integer(3)), 1)
	ordered(t, list(text("a"), unit()), list(text("b")), -1)
}

// compared returns the sign of the first number that is not 0.
func compared(l ...int) int {
	for _, n := range l {
		if n != 0 {
			return min(1, max(-1, n))
		}
	}
	return 0
}

// P12.1: nil and empty slices are equal at all levels.
func TestEmptySlices(t *testing.T) {
	none, empty, room := []api.Value(nil), []api.Value{}, make([]api.Value, 3)[:0]
	for _, a := range [][]api.Value{none, empty, room} {
		for _, b := range [][]api.Value{none, empty, room} {
			if !value.Same(a, b) {
				t.Error("empty slices are not the same")
			}
			for _, kind := range []int{0, api.VUnit, api.VInt, api.VList, api.VFun, 99} {
				v, w := api.Value{Kind: kind, L: a}, api.Value{Kind: kind, L: b}
				ordered(t, v, w, 0, kind)
				ordered(t, list(unit(), v), list(unit(), w), 0, kind)
				ordered(t, record("P", list(v)), record("P", list(w)), 0, kind)
			}
		}
		for _, l := range [][]api.Value{{{}}, {unit()}, make([]api.Value, 2)} {
			if value.Same(a, l) || value.Same(l, a) {
				t.Error("an empty slice is the same as", l)
			}
			ordered(t, list(a...), list(l...), -1, l)
		}
	}
}

// P12.1: slices are the same only if they have the same length and the same elements in the same order.
func TestSame(t *testing.T) {
	l := []api.Value{unit(), integer(1), integer(2), list(integer(1)), {}}
	for i := range len(l) + 1 {
		for k := range len(l) + 1 {
			if value.Same(l[:i], copied(l[:k])) != (i == k) {
				t.Error("prefixes of", i, "and", k)
			}
		}
	}
	for i := range l {
		for k := range i {
			other := copied(l)
			other[i], other[k] = other[k], other[i]
			if value.Same(l, other) || value.Same(other, l) {
				t.Error("exchanged", i, "and", k)
			}
		}
		other := copied(l)
		other[i].M++
		if value.Same(l, other) || value.Same(other, l) {
			t.Error("changed", i)
		}
	}
}

// P12.1: a value that differs from another in one number, string or list, wherever it is, is not equal to it, whether they are valid or not.
func TestDifferences(t *testing.T) {
	strange := api.Value{Kind: 77, T: "x", N: -1, M: math.MinInt, S: "y", L: []api.Value{{}, {Kind: -4, L: []api.Value{{T: "", M: 3}}}, {Kind: api.VSpan, L: []api.Value{}}}}
	for _, v := range append(valids(), strange, api.Value{}) {
		if value.Nodes(v) > 100 {
			continue
		}
		other := copied(v)
		ordered(t, v, other, 0, shortened(v))
		parts(&other, func(part reflect.Value) {
			before := reflect.ValueOf(part.Interface())
			for _, changed := range changes(part.Interface()) {
				part.Set(reflect.ValueOf(changed))
				if value.Equal(v, other) || value.Equal(other, v) || value.Same([]api.Value{v}, []api.Value{other}) || value.Compare(v, other) == 0 || value.Compare(v, other) != modelCompare(v, other) || value.Compare(other, v) != modelCompare(other, v) {
					t.Errorf("%s and %s", shortened(v), shortened(other))
				}
			}
			part.Set(before)
		})
		ordered(t, v, other, 0, shortened(v))
	}
}

// changes returns other values than x.
func changes(x any) []any {
	switch x := x.(type) {
	case int:
		return []any{x + 1, x - 1, ^x, x + 1<<32}
	case string:
		return []any{x + "a", "\x00" + x, x + x + "z"}
	case []api.Value:
		l := []any{append(copied(x), api.Value{}), append(copied(x), unit())}
		if len(x) > 0 {
			l = append(l, x[1:], x[:len(x)-1], []api.Value{})
		}
		return l
	}
	return nil
}

// P12.6: Compare is a total order over valid and other values: antisymmetric, transitive, and 0 exactly for equal values.
func TestTotalOrder(t *testing.T) {
	w := newWalker(1)
	var l []api.Value
	for range 120 {
		l = append(l, w.value(3))
	}
	for _, a := range l {
		for _, b := range l {
			ordered(t, a, b, modelCompare(a, b), shortened(a), " and ", shortened(b))
			if (value.Compare(a, b) == 0) != equal(a, b) {
				t.Errorf("%s and %s", shortened(a), shortened(b))
			}
			for _, c := range l {
				if value.Compare(a, b) <= 0 && value.Compare(b, c) <= 0 && value.Compare(a, c) > 0 {
					t.Errorf("%s, %s and %s", shortened(a), shortened(b), shortened(c))
				}
			}
		}
	}
}
