package mean_test

import (
	"fmt"
	"math/rand"
	"reflect"
	"slices"
	"strconv"
	"sync"
	"testing"

	"retroact/api"
	"retroact/core"
	"retroact/mean"
	"retroact/value"
)

// tally counts what happens in arbitrary programs.
type tally struct {
	sync.Mutex
	runs int
	// changes counts programs in which something that cannot be reached is changed.
	changes int
	faults  map[string]int
	steps   map[int]int
}

func (y *tally) add(name string, fault int, steps map[int]int) {
	y.Lock()
	defer y.Unlock()
	y.runs++
	y.faults[fmt.Sprint(name, " ", fault)]++
	for op, count := range steps {
		y.steps[op] += count
	}
}

func (y *tally) change() {
	y.Lock()
	defer y.Unlock()
	y.changes++
}

// fitting checks that the values of a result fit their types (P13.5).
func fitting(t *testing.T, p api.Prog, c api.Call, r api.Result) {
	t.Helper()
	check := func(vs []api.Value, forms []string) bool { return value.All(p, vs, named(forms)) }
	ok := r.Fault != api.FNone && len(r.Vars) == 0 || check(r.Vars, stateVars()[c.Actor])
	msg := func(name string, vs []api.Value) bool {
		for _, l := range messages() {
			if slices.ContainsFunc(l, func(m message) bool { return m.name == name && check(vs, m.params) }) {
				return true
			}
		}
		return false
	}
	for _, s := range r.Sends {
		ok = ok && msg(s.Msg, s.Args) && value.Path(s.To)
	}
	for _, s := range r.Timers {
		ok = ok && msg(s.Msg, s.Args) && value.Path(s.To)
	}
	for _, s := range r.Spawns {
		ok = ok && check(s.Args, actorParams()[s.Actor])
	}
	for _, a := range r.Asks {
		ok = ok && slices.ContainsFunc(effects(), func(e message) bool { return e.name == a.Name && e.reply == a.Reply && check(a.Args, e.params) })
	}
	if !ok || r.Used < 0 || r.Used > api.MaxFuel {
		t.Errorf("the values of %s do not fit, or it used too much", shortened(r))
	}
}

// moved returns a program with further declarations, and others in another order, that no actor type of p can reach.
func moved(p api.Prog) api.Prog {
	q := copied(p)
	parts(&q, func(v reflect.Value) {
		if x, isExpr := v.Interface().(api.Expr); isExpr && (x.Op == api.XCall || x.Op == api.XFun) {
			v.FieldByName("N").SetInt(int64(x.N) + 2)
		}
	})
	q.Funs = append([]api.Fun{{Name: "more", Result: typ("int"), Body: expr("call1")}, {Name: "other", Result: typ("int"), Body: expr("call0")}}, q.Funs...)
	q.Types = append([]api.Decl{{Name: "More", Record: true, Ctors: []api.Ctor{{Name: "More", Fields: fields("p", "P")}}}}, q.Types...)
	slices.Reverse(q.Types)
	slices.Reverse(q.Effects)
	q.Actors = append([]api.Actor{{Name: "First", On: []api.Handler{{Msg: "Go", Body: block("stop")}}}}, q.Actors...)
	slices.Reverse(q.Actors)
	return q
}

// reached returns the functions that an actor type can reach.
func reached(p api.Prog, a api.Actor) map[int]bool {
	seen := map[int]bool{}
	var visit func(x any)
	visit = func(x any) {
		parts(x, func(v reflect.Value) {
			x, isExpr := v.Interface().(api.Expr)
			if isExpr && (x.Op == api.XCall || x.Op == api.XFun) && !seen[x.N] {
				seen[x.N] = true
				visit(&p.Funs[x.N].Body)
			}
		})
	}
	visit(&a)
	return seen
}

// changed returns a program in which the functions that an actor type cannot reach have other bodies.
func changed(p api.Prog, a api.Actor) api.Prog {
	q, seen := copied(p), reached(p, a)
	for k, f := range q.Funs {
		if !seen[k] {
			q.Funs[k].Body = api.Expr{Op: api.XIf, Kids: []api.Expr{expr("bool1"), f.Body, f.Body}}
		}
	}
	return q
}

// walk makes a program, and compares the results of its invocations with those of the model.
func walk(t *testing.T, seed int64, y *tally) {
	m := maker{rand.New(rand.NewSource(seed))}
	p := m.program()
	if !core.Right(p) {
		t.Fatalf("seed %d: the program is not valid", seed)
	}
	for range 2 {
		for _, c := range m.calls() {
			want, steps := modelRun(p, c)
			got := mean.Run(p, c)
			if !mean.Fits(p, c) || !mean.Same(got, want) {
				t.Fatalf("seed %d: %s: %s; want %s", seed, shortened(c), shortened(got), shortened(want))
			}
			y.add("run", got.Fault, steps)
			fitting(t, p, c, got)
		}
		evaluate(t, m, p, seed, y)
	}
	for _, a := range p.Actors {
		q := changed(p, a)
		if !core.Same(p, q) {
			y.change()
		}
		reachable(t, m, p, q, a.Name, seed)
		reachable(t, m, p, moved(p), a.Name, seed)
	}
}

// reachable checks that two programs in which an actor type can reach the same have the same results for it (P11.5, P13.5).
func reachable(t *testing.T, m maker, p, q api.Prog, name string, seed int64) {
	t.Helper()
	if d := core.Digest(p, name); d != core.Digest(q, name) || d == (api.Digest{}) {
		t.Fatalf("seed %d: the digests of %s differ", seed, name)
	}
	for _, c := range m.calls() {
		if c.Actor == name && !mean.Same(mean.Run(p, c), mean.Run(q, c)) {
			t.Fatalf("seed %d: %s: another result with an equal digest", seed, shortened(c))
		}
	}
}

// evaluate compares the values of functions with those of the model.
func evaluate(t *testing.T, m maker, p api.Prog, seed int64, y *tally) {
	t.Helper()
	for k, s := range signatures() {
		args := m.values(s[1:])
		want, wantFault, wantWhy := modelEval(p, k, args)
		got, fault, why := mean.Eval(p, k, args)
		if !value.Equal(got, want) || fault != wantFault || why != wantWhy || fault == 0 && !value.Fits(p, got, typ(s[0])) {
			t.Fatalf("seed %d: function %d of %s: %s, fault %d; want %s, fault %d", seed, k, shortened(args), shortened(got), fault, shortened(want), wantFault)
		}
		y.add("eval", fault, nil)
	}
}

// P13.1 to P13.3, P13.5: arbitrary programs have the results of the plain model of the chapter, whose values fit their types, and which do not depend on what cannot be reached.
func TestWalks(t *testing.T) {
	const groups, programs = 8, 60
	y := &tally{faults: map[string]int{}, steps: map[int]int{}}
	t.Run("groups", func(t *testing.T) {
		for group := range groups {
			t.Run(strconv.Itoa(group), func(t *testing.T) {
				t.Parallel()
				for k := range programs {
					walk(t, int64(group*programs+k), y)
				}
			})
		}
	})
	t.Log(y.runs, "runs,", y.changes, "changes,", y.faults, y.steps)
	if y.changes < 100 {
		t.Error("only", y.changes, "programs are changed")
	}
	for fault := api.FNone; fault <= api.FFail; fault++ {
		// A function without loops seldom uses all fuel before it is nested too deeply, and has no fail statements.
		seldom := fault == api.FFuel || fault == api.FFail
		if y.faults[fmt.Sprint("run ", fault)] < 10 || !seldom && y.faults[fmt.Sprint("eval ", fault)] < 10 {
			t.Error("the fault", fault, "is too rare")
		}
	}
	for op := api.XUnit; op <= api.XPrim; op++ {
		if op != api.XArm && y.steps[op] < 100 {
			t.Error("the operator", op, "is evaluated too seldom")
		}
	}
	for op := api.SLet; op <= api.SFail; op++ {
		if op != api.SArm && y.steps[100+op] < 50 {
			t.Error("the statement", op, "is executed too seldom")
		}
	}
}
