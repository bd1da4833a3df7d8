package core_test

import (
	"slices"
	"testing"

	"retroact/api"
	"retroact/check"
	"retroact/core"
)

// source has each form of the language.
const source = `
record P { x: int, l: [int] } record E { } record N { p: P, v: V, to: ref Main } record Unused { n: N }
variant V { A(int), B(P, text), C, D(V) } variant O { O }
effect pay(a: int, t: text): bool effect ask(): text effect tell(u: [V], p: P): unit
fun f(n: int): int = if n <= 0 then 0 else n + f(n - 1)
fun mk(k: int): fun(int): int = fun(x: int): int = x * k + (fun(y: int): int = y / k)(x)
fun each(l: [int], g: fun(int): bool): [bool] = if len(l) == 0 then [] else [g(at(l, 0))] ++ each(slice(l, 1, len(l)), g)
fun name(v: V): text = match v { A(n) => show(n), B(p, t) => t ++ sub("abc", 0, size(t)), D(w) => name(w), _ => "" }
fun first(n: N): P = (n with { p = n.p with { x = -n.p.x % 7, l = put([1], 0, 2) } }).p
fun truth(a: bool, b: text): bool = not a and (b < "x" or b != "y") or (1 >= 2) == (3 > 4)
fun nothing(): unit = () fun many(): [[V]] = [[], [C, A(1)], [] ++ []] fun other(): int = f(1)
actor Work(n: int, boss: ref Main) escalate {
  state v: V = A(n) state w: [V] = [] state me: ref Work = self state t: text = let a = show(n) in a ++ a state o: O = O state main: ref Main = boss
  on Go(p: P, to: ref Main) {
    let q = p with { x = f(2) }
    match v { A(k) { v = B(q, show(k)) } B(r, _) { w = put(w, 0, C) let s = r.x } _ { fail "no" } }
    for y in q.l { if y > 1 and not (y == 3) { send to Done(mk(y)(y)) } else { after y send self Go(p, to) } }
    do pay(at(q.l, 0), sub("abc", 0, size("x"))) then Paid
    let g = fun(k: int): bool = k > p.x and len(w) > 0 and me == self
    let l = each(q.l, g)
  }
  on Paid(ok: bool) { if ok { stop } else { fail name(v) ++ "!" } }
  on Told(u: unit) { let n = first(N { p = P { x = 1, l = [] }, v = v, to = main }) send main Done(n.x) }
}
actor Main() restart 3 {
  state total: int = let a = 1 in a + (match A(2) { A(k) => k, _ => 0 }) state e: E = E { }
  on Done(n: int) { total = total + n let w = spawn Work(total, self) on 1 send w Paid(true) spawn Work(-len([1] ++ slice([2], 0, 1)), self) }
  on Got(t: text) { do ask() then Got }
}
actor Idle(p: P, n: N) { state q: P = p state r: N = n on Done(u: unit) { do tell([C], q) then Done } on Stop() { } }
`

// patches is a patch file with each sort of converter.
const patches = source + `
convert type P(x: int) = P { x = x, l = [x] } convert type V.A(n: int, m: int) = A((fun(k: int): int = k + m)(n)) convert actor Main(sum: int) { total = sum, e = E { } }
convert message Main.Add(n: int) = Done(n * 2) convert message Work.init(n: int, m: ref Main) = init(n, (fun(): ref Main = m)()) move Main to 2 drop Old`

// P11.5: checked programs, and those of checked patch files, are valid.
func TestChecked(t *testing.T) {
	for _, s := range []string{"actor Main() { }", "actor Main() { state a: int = 1 }", source, "fun g(): fun(): int = fun(): int = g()() actor Main() { on Go() { } }"} {
		right(t, compiled(t, s), true, s)
	}
	p, _, _, _, e, at := check.CheckPatch(patches)
	if e != api.OK {
		t.Fatal(e, at)
	}
	right(t, p, true, "patches")
}

// P11.5: an example of the chapter.
func TestExample(t *testing.T) {
	p := compiled(t, "actor Main() { state a: int = 1 }")
	right(t, p, true, "an integer")
	p.Actors[0].Vars[0].Init = api.Expr{Op: api.XText}
	right(t, p, false, "a text as an integer")
}

// P11.4: no function changes its arguments, or reads or changes what lies beyond the length of their slices.
func TestArguments(t *testing.T) {
	p := compiled(t, source)
	wide, spare := withRoom(p)
	before := printed(wide)
	for _, q := range []api.Prog{p, wide} {
		core.Right(q)
		core.Bytes(q)
		core.Same(q, wide)
		core.Same(wide, q)
		for _, a := range q.Actors {
			core.Digest(q, a.Name)
		}
	}
	if printed(wide) != before || !core.Right(wide) || core.Bytes(wide) != core.Bytes(p) || core.Digest(wide, "Work") != core.Digest(p, "Work") || !core.Same(wide, p) {
		t.Error("elements beyond the length of slices matter, or have changed")
	}
	if slices.Contains(spare(), false) {
		t.Error("elements beyond the length of slices have changed")
	}
}

// P11.4: results share no memory with each other, and do not change if an argument or another result does.
func TestFreshPrograms(t *testing.T) {
	p := compiled(t, source)
	s := core.Bytes(p)
	first, _ := core.Read(s)
	second, _ := core.Read(s)
	unshared(t, p, first, second)
	before := printed(second)
	digest := core.Digest(second, "Work")
	spoil(&first)
	spoil(&p)
	if third, ok := core.Read(s); printed(second) != before || !ok || printed(third) != before || core.Bytes(second) != s || core.Digest(second, "Work") != digest {
		t.Error("a change of an argument or a result reaches a later result")
	}
}
