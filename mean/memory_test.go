package mean_test

import (
	"testing"

	"retroact/api"
	"retroact/core"
	"retroact/mean"
)

// sharing is a program in which values are handed on to many places.
const sharing = `
record P { x: int, y: [int] } variant V { A([int]), B(P, [V]), C }
effect tell(v: [V], p: P): bool
fun pass(l: [int]): [int] = l
fun keep(l: [int], m: [[int]]): fun(): [[int]] = fun(): [[int]] = m ++ [l, l]
fun mixed(l: [int], p: P, v: [V]): [[int]] = [l, p.y, slice(l, 0, len(l)), put(l, 0, 9), l ++ [], pass(l), slice(l, 1, 2)]
actor W(l: [int], p: P) { state a: [int] = l state b: [int] = l state c: P = p state d: [[int]] = [l, p.y, l] state e: [int] = slice(l, 1, len(l)) }
actor Main() {
  state l: [int] = [1, 2, 3] state m: [int] = [4] state p: P = P { x = 1, y = [5, 6] } state v: [V] = []
  on Ok(b: bool) { } on Take(a: [int], b: [int], c: P) { }
  on Go(n: [int], q: P, w: [V]) {
    send self Take(l, l, p) after 1 send self Take(n, l, q) spawn W(l, p) spawn W(n, q) do tell(w, q) then Ok do tell(v, q) then Ok
    m = l
    for x in w { match x { A(k) { m = k v = [x, x] ++ v } B(r, u) { p = r v = v ++ u } C { v = slice(w, 0, 1) } } }
    let g = keep(l, [n, n]) let h = g()
    l = slice(at(h, 2), 0, 2) p = q with { y = put(q.y, 0, 7) }
    send self Take(l, at(h, 0), p) send self Take(m, m, q with { x = 8 }) do tell([B(q, w), A(n), C], P { x = 0, y = n }) then Ok
  }
  on Same() { }
  on Fails(n: [int]) { send self Take(n, n, p) l = n fail "no" }
}`

// sharingCalls are calls of each of its handlers and initializers.
func sharingCalls() []api.Call {
	vars := plains("[1, 2, 3]", "[4]", "P{1, [5, 6]}", "[V#0([1]), V#2()]")
	w := "[V#0([7, 8]), V#1(P{2, [9]}, [V#0([1]), V#2()]), V#2()]"
	return []api.Call{
		{Actor: "Main", Path: "0", Vars: vars, Msg: "Go", Args: plains("[10, 11, 12]", "P{3, [13, 14]}", w)},
		{Actor: "Main", Path: "0", Vars: vars, Msg: "Same"}, {Actor: "Main", Path: "0", Vars: vars, Msg: "Fails", Args: plains("[1]")}, {Actor: "Main", Path: "0"}, {Actor: "W", Path: "0.1", Args: plains("[1, 2, 3]", "P{1, [5, 6]}")},
		// Calls that do not fit.
		{Actor: "Main", Path: "0", Vars: vars[1:], Msg: "Go", Args: plains("[10, 11, 12]", "P{3, [13, 14]}", w)}, {Actor: "W", Path: "0", Args: []api.Value{list(span(0, 1)), plain("P{1, []}")}},
	}
}

// evalCalls are arguments of the functions of sharing.
func evalCalls() map[int][]api.Value {
	return map[int][]api.Value{0: plains("[1, 2]"), 1: plains("[1, 2]", "[[3], [4, 5]]"), 2: plains("[1, 2]", "P{1, [3]}", "[V#0([4])]")}
}

// P13.4: no function changes its arguments, or reads or changes what lies beyond the length of their slices.
func TestArguments(t *testing.T) {
	p := compiled(t, sharing)
	wide, sameProgram := withRoom(p)
	before := printed(wide)
	for _, c := range sharingCalls() {
		roomy, sameCall := withRoom(c)
		beforeCall := printed(roomy)
		want := mean.Run(p, c)
		if got := mean.Run(wide, roomy); printed(got) != printed(want) || mean.Fits(wide, roomy) != mean.Fits(p, c) {
			t.Errorf("%s: elements beyond the length of slices matter: %s", printed(c), printed(got))
		}
		roomyResult, sameResult := withRoom(want)
		if !mean.Same(roomyResult, want) || !mean.Same(want, roomyResult) || printed(roomyResult) != printed(want) || !sameResult() {
			t.Errorf("%s: Same reads or changes what is beyond the length of slices", printed(c))
		}
		if printed(roomy) != beforeCall || !sameCall() {
			t.Errorf("%s: the call has changed", printed(c))
		}
	}
	for fun, args := range evalCalls() {
		roomy, sameArgs := withRoom(args)
		want, _, _ := mean.Eval(p, fun, args)
		if got, fault, _ := mean.Eval(wide, fun, roomy); printed(got) != printed(want) || fault != 0 || printed(roomy) != printed(args) || !sameArgs() {
			t.Errorf("function %d: elements beyond the length of slices matter, or have changed: %s", fun, printed(got))
		}
	}
	if printed(wide) != before || !core.Same(wide, p) || !sameProgram() {
		t.Error("the program has changed")
	}
}

// P13.4, P3: results share no memory with the arguments, with each other or within themselves, and do not change with any of them.
func TestResults(t *testing.T) {
	for k, c := range sharingCalls() {
		p := compiled(t, sharing)
		first, second := mean.Run(p, c), mean.Run(p, c)
		unshared(t, p, c, first, second)
		before := printed(second)
		spoil(&first)
		if third := mean.Run(p, c); printed(third) != before || printed(second) != before {
			t.Errorf("call %d: a change of a result reaches another one", k)
		}
		spoil(&c)
		spoil(&p)
		if printed(second) != before {
			t.Errorf("call %d: a change of an argument reaches a result", k)
		}
	}
	for fun, args := range evalCalls() {
		p := compiled(t, sharing)
		first, _, _ := mean.Eval(p, fun, args)
		second, _, _ := mean.Eval(p, fun, args)
		unshared(t, p, args, first, second)
		before := printed(second)
		spoil(&first)
		if third, _, _ := mean.Eval(p, fun, args); printed(third) != before || printed(second) != before {
			t.Errorf("function %d: a change of a result reaches another one", fun)
		}
		spoil(&args)
		spoil(&p)
		if printed(second) != before {
			t.Errorf("function %d: a change of an argument reaches a result", fun)
		}
	}
}

// P13.4: the results of the calls are those of the model, in which each value is built anew.
func TestSharedValues(t *testing.T) {
	p := compiled(t, sharing)
	for _, c := range sharingCalls() {
		want, _ := modelRun(p, c)
		if got := mean.Run(p, c); printed(got) != printed(want) {
			t.Errorf("%s: %s; want %s", printed(c), printed(got), printed(want))
		}
	}
	for fun, args := range evalCalls() {
		want, _, _ := modelEval(p, fun, args)
		if got, _, _ := mean.Eval(p, fun, args); printed(got) != printed(want) {
			t.Errorf("function %d: %s; want %s", fun, printed(got), printed(want))
		}
	}
}

// P13.5, P4: calls in another order, and many at the same time, have the same results.
func TestSameResults(t *testing.T) {
	p := compiled(t, sharing)
	calls := sharingCalls()
	var want []string
	for _, c := range calls {
		want = append(want, printed(mean.Run(p, c)))
	}
	done := make(chan bool)
	for k := range 4 {
		go func() {
			defer func() { done <- true }()
			for j := range 200 {
				at := (j*3 + k) % len(calls)
				if got := printed(mean.Run(p, calls[at])); got != want[at] {
					t.Errorf("call %d: %s; want %s", at, got, want[at])
				}
			}
		}()
	}
	for range 4 {
		<-done
	}
}
