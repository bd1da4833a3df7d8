package mean_test

import (
	"reflect"
	"testing"

	"retroact/api"
	"retroact/mean"
)

// whole returns a result with something in each field.
func whole() api.Result {
	values := func() []api.Value {
		return []api.Value{integer(1), list(record("P", text("a"), variant("V", 1, truth(1))), closure(2, span(3, 4))), reference("W", "0.1")}
	}
	return api.Result{
		Vars:   values(),
		Sends:  []api.Send{{To: "0", Msg: "A", Args: values()}, {To: "0.1", Msg: "B"}},
		Timers: []api.Delay{{Ticks: 3, To: "0", Msg: "A", Args: values()}, {Ticks: 4, To: "0.1", Msg: "B"}},
		Spawns: []api.Spawn{{Actor: "W", Args: values(), Node: -1}, {Actor: "X", Node: 2}},
		Asks:   []api.Ask{{Name: "pay", Args: values(), Reply: "Ok"}, {Name: "ask", Reply: "No"}},
		Stop:   true, Fault: api.FOver, Why: "why", Used: 5,
	}
}

// alike checks whether two results are the same, in both orders.
func alike(t *testing.T, a, b api.Result, want bool, message any) {
	t.Helper()
	if mean.Same(a, b) != want || mean.Same(b, a) != want {
		t.Errorf("%v: %s and %s are the same: %v", message, shortened(a), shortened(b), !want)
	}
	if !mean.Same(a, a) || !mean.Same(b, b) {
		t.Errorf("%v: a result differs from itself", message)
	}
}

// P13.4: a difference in any field at any depth counts.
func TestSame(t *testing.T) {
	alike(t, whole(), whole(), true, "equal results")
	alike(t, api.Result{}, api.Result{}, true, "zero results")
	alike(t, whole(), api.Result{}, false, "a zero result")
	// Each number, string and bool.
	a, b := whole(), whole()
	changes := 0
	parts(&b, func(v reflect.Value) {
		before := reflect.New(v.Type()).Elem()
		before.Set(v)
		switch v.Kind() {
		case reflect.Int:
			v.SetInt(v.Int() + 1)
		case reflect.String:
			v.SetString(v.String() + "!")
		case reflect.Bool:
			v.SetBool(!v.Bool())
		default:
			return
		}
		changes++
		alike(t, a, b, false, changes)
		v.Set(before)
		alike(t, a, b, true, changes)
	})
	if changes < 200 {
		t.Error("only", changes, "changes")
	}
	// Each list, with an element less, with one more, and in another order.
	parts(&b, func(v reflect.Value) {
		if v.Kind() != reflect.Slice {
			return
		}
		before := reflect.ValueOf(v.Interface())
		v.Set(reflect.Append(before, reflect.Zero(v.Type().Elem())))
		alike(t, a, b, false, "an element more")
		if count := before.Len(); count > 0 {
			v.Set(before.Slice(0, count-1))
			alike(t, a, b, false, "an element less")
			v.Set(before.Slice(1, count))
			alike(t, a, b, false, "the first element less")
			v.Set(reflect.Zero(v.Type()))
			alike(t, a, b, false, "no elements")
			if count > 1 {
				v.Set(reflect.AppendSlice(reflect.AppendSlice(reflect.Zero(v.Type()), before.Slice(1, count)), before.Slice(0, 1)))
				alike(t, a, b, false, "another order")
			}
		}
		v.Set(before)
		alike(t, a, b, true, "as before")
	})
}

// P13.4: nil and empty slices are equal at each depth.
func TestSameEmptySlices(t *testing.T) {
	empty := func(x *api.Result) {
		parts(x, func(v reflect.Value) {
			if v.Kind() == reflect.Slice && v.Len() == 0 {
				v.Set(reflect.MakeSlice(v.Type(), 0, 3))
			}
		})
	}
	for _, x := range []api.Result{{}, whole(), {Vars: []api.Value{list(), unit()}, Sends: []api.Send{{}}, Timers: []api.Delay{{}}, Spawns: []api.Spawn{{}}, Asks: []api.Ask{{}}}} {
		y, z := copied(x), copied(x)
		empty(&y)
		alike(t, x, y, true, "empty slices")
		parts(&z, func(v reflect.Value) {
			if v.Kind() == reflect.Slice && v.Len() == 0 {
				v.Set(reflect.MakeSlice(v.Type(), 0, 1))
				alike(t, x, z, true, "an empty slice")
				alike(t, y, z, true, "an empty slice")
				v.Set(reflect.Zero(v.Type()))
			}
		})
	}
	// One element more, which is zero, is a difference.
	alike(t, api.Result{}, api.Result{Vars: []api.Value{{}}}, false, "a zero value")
	alike(t, api.Result{}, api.Result{Sends: []api.Send{{}}}, false, "a zero message")
	alike(t, api.Result{}, api.Result{Timers: []api.Delay{{}}}, false, "a zero timer")
	alike(t, api.Result{}, api.Result{Spawns: []api.Spawn{{}}}, false, "a zero spawn")
	alike(t, api.Result{}, api.Result{Asks: []api.Ask{{}}}, false, "a zero request")
}

// P13.4: what a value would look like in another field, or where fields have the same contents in other places.
func TestSameFields(t *testing.T) {
	one := plains("1")
	for k, l := range [][]api.Result{
		{{Fault: 1}, {Used: 1}, {Stop: true}, {Why: "1"}, {Vars: one}},
		{{Sends: []api.Send{{To: "0", Msg: "A", Args: one}}}, {Sends: []api.Send{{To: "A", Msg: "0", Args: one}}}, {Timers: []api.Delay{{To: "0", Msg: "A", Args: one}}}, {Spawns: []api.Spawn{{Actor: "0", Args: one}}}, {Asks: []api.Ask{{Name: "0", Args: one, Reply: "A"}}}, {Asks: []api.Ask{{Name: "A", Args: one, Reply: "0"}}}},
	} {
		for i := range l {
			for j := range l {
				alike(t, l[i], l[j], i == j, k)
			}
		}
	}
}
