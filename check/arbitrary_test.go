package check_test

import (
	"math/rand"
	"runtime/debug"
	"slices"
	"strconv"
	"strings"
	"sync"
	"testing"

	"retroact/api"
	"retroact/check"
	"retroact/core"
	"retroact/lex"
	"retroact/syntax"
	"retroact/types"
)

// TestMain lets the garbage of many small programs be collected less often, which makes the tests several times as fast.
func TestMain(m *testing.M) {
	debug.SetGCPercent(1000)
	m.Run()
}

// made returns an arbitrary source, whose layout depends on a second seed.
func made(t *testing.T, seed, layout int) string {
	t.Helper()
	m := &maker{Rand: rand.New(rand.NewSource(int64(seed))), layout: rand.New(rand.NewSource(int64(layout))), odd: []int{0, 1, 2, 5, 20}[seed%5]}
	tokens, e, at := lex.Scan(m.source(seed%2 == 0))
	if e != api.OK {
		t.Fatal(e, at)
	}
	return m.laidOut(tokens)
}

// laidOut writes tokens with arbitrary white space and comments between them.
func (m *maker) laidOut(tokens []api.Token) string {
	var out strings.Builder
	space := func() {
		out.WriteString([]string{" ", "  ", "\n", "\t\r\n", " // fun f(x\n", " //\n "}[max(0, m.layout.Intn(60)-54)])
	}
	for _, token := range tokens {
		if m.layout.Intn(3) > 0 || token.Kind != api.TMark {
			space()
		}
		out.WriteString(lex.Write([]api.Token{token}))
		if token.Kind != api.TMark || strings.Contains("=<>!+:-", token.Text[:1]) {
			space()
		}
	}
	return out.String()
}

// tally counts what arbitrary sources led to.
type tally struct {
	sync.Mutex
	errors map[api.Errno]int
	// lifted is the number of functions without names.
	lifted int
}

func (l *tally) add(o outcome) {
	l.Lock()
	defer l.Unlock()
	l.errors[o.e]++
	for _, f := range o.Prog.Funs {
		if f.Name == "" {
			l.lifted++
		}
	}
}

// P10.1, P10.2, P10.4: arbitrary programs and patch files have the results of the plain model, and are valid if they have no error; white space, comments and parentheses change nothing but offsets.
func TestArbitrarySources(t *testing.T) {
	const parts, seeds = 8, 2400
	counts := &tally{errors: map[api.Errno]int{}}
	t.Run("parts", func(t *testing.T) {
		for part := range parts {
			t.Run(strconv.Itoa(part), func(t *testing.T) {
				t.Parallel()
				for seed := part; seed < seeds; seed += parts {
					counts.add(compared(t, seed))
				}
			})
		}
	})
	for e, least := range map[api.Errno]int{api.OK: 1000, api.ErrType: 200, api.ErrName: 100, api.ErrTwice: 100, api.ErrNeed: 50, api.ErrRange: 5} {
		if counts.errors[e] < least {
			t.Error("error", e, "occurred only", counts.errors[e], "times")
		}
	}
	if counts.lifted < 10000 {
		t.Error("there were only", counts.lifted, "closures and converters")
	}
}

// compared compares the results of an arbitrary source in two layouts with the model, and returns them without their offset.
func compared(t *testing.T, seed int) outcome {
	var outcomes []outcome
	for layout := range 2 {
		s := made(t, seed, 2*seed+layout)
		got := patch(s)
		if got.at < 0 || got.at > len(s) {
			t.Fatalf("%s: offset %d", s, got.at)
		}
		if want := expected(s); printed(got) != printed(want) {
			t.Fatalf("seed %d: %s\n%+v, ^%s; want\n%+v, ^%s", seed, s, got, s[got.at:], want, s[want.at:])
		}
		if problem := invalid(got.Prog); problem != "" && got.e == api.OK {
			t.Fatalf("seed %d: %s\n%s", seed, s, problem)
		}
		if core.Right(got.Prog) != (got.e == api.OK) {
			t.Fatalf("seed %d: %s\nis valid by layer 11: %v", seed, s, got.e != api.OK)
		}
		if p, e, at := check.Check(s); seed%2 == 1 && printed(outcome{api.Patch{Prog: p}, e, at}) != printed(got) {
			t.Fatalf("seed %d: %s\nas a program: error %d at %d", seed, s, e, at)
		}
		got.at = 0
		outcomes = append(outcomes, got)
	}
	if printed(outcomes[0]) != printed(outcomes[1]) {
		t.Fatalf("seed %d: the result depends on the layout", seed)
	}
	return outcomes[0]
}

// expected is what lower layers and the model make of a patch file.
func expected(s string) outcome {
	tree, e, at := syntax.Patch(s)
	if e == api.OK {
		_, e, at = types.Decls(tree)
	}
	if e != api.OK {
		return outcome{e: e, at: at}
	}
	return modelled(tree)
}

// sort names the tokens that can often take the place of a token.
func sort(x api.Token) string {
	word := " " + lex.Write([]api.Token{x}) + " "
	for _, words := range []string{" int bool text unit ", " + - * / % ++ == != < <= > >= and or ", " true false 0 1 2 \"\" \"a\" self rw n ", " let for ", " send stop "} {
		if strings.Contains(words, word) {
			return words
		}
	}
	if x.Kind == api.TName && x.Text < "a" {
		return "upper name"
	}
	return strconv.Itoa(x.Kind)
}

// P10.1, P10.2: programs and patch files without errors in which some tokens have been replaced have the results of the plain model.
func TestDamagedSources(t *testing.T) {
	counts := &tally{errors: map[api.Errno]int{}}
	for seed := range 150 {
		tokens, _, _ := lex.Scan(made(t, 5*seed, seed))
		r := rand.New(rand.NewSource(int64(seed)))
		like := map[string][]api.Token{}
		for _, x := range tokens {
			like[sort(x)] = append(like[sort(x)], x)
		}
		for range 20 {
			damaged := slices.Clone(tokens)
			for range r.Intn(3) + 1 {
				k := r.Intn(len(tokens))
				others := like[sort(tokens[k])]
				damaged[k] = others[r.Intn(len(others))]
			}
			s := lex.Write(damaged)
			got := patch(s)
			if want := expected(s); printed(got) != printed(want) {
				t.Fatalf("%s\n%+v, ^%s; want\n%+v, ^%s", s, got, s[got.at:], want, s[want.at:])
			}
			if problem := invalid(got.Prog); problem != "" && got.e == api.OK {
				t.Fatalf("%s\n%s", s, problem)
			}
			if core.Right(got.Prog) != (got.e == api.OK) {
				t.Fatalf("%s\nis valid by layer 11: %v", s, got.e != api.OK)
			}
			counts.add(got)
		}
	}
	for e, least := range map[api.Errno]int{api.OK: 200, api.ErrType: 100, api.ErrName: 80, api.ErrTwice: 20} {
		if counts.errors[e] < least {
			t.Error("error", e, "occurred only", counts.errors[e], "times")
		}
	}
}

// P1, P10.4: no source makes the checker panic, and the offset of an error lies within the source.
func TestBrokenSources(t *testing.T) {
	for seed := range 60 {
		s := made(t, seed, seed)
		r := rand.New(rand.NewSource(int64(seed)))
		for range 20 {
			cut := r.Intn(len(s) + 1)
			from := r.Intn(len(s) + 1)
			for _, broken := range []string{s[:cut], s[cut:], s[:cut] + s[from:], s[:cut] + string(rune(r.Intn(128))) + s[cut:]} {
				if got := patch(broken); got.at < 0 || got.at > len(broken) {
					t.Fatalf("%s: offset %d", broken, got.at)
				}
				if p, e, at := check.Check(broken); at < 0 || at > len(broken) || e != api.OK && printed(p) != printed(api.Prog{}) {
					t.Fatalf("%s: error %d at %d", broken, e, at)
				}
			}
		}
	}
}

// P10.3: results share no memory with each other, and a change of one does not reach another one.
func TestFreshResults(t *testing.T) {
	for seed := range 200 {
		s := made(t, seed, seed)
		first, second := patch(s), patch(s)
		program, e, at := check.Check(s)
		third := outcome{api.Patch{Prog: program}, e, at}
		unshared(t, first, second, third)
		if printed(first) != printed(second) {
			t.Fatalf("%s: two calls have different results", s)
		}
		before, other := printed(second), printed(third)
		spoil(&first.Patch)
		if printed(second) != before || printed(third) != other || printed(patch(s)) != before {
			t.Fatalf("%s: a change of one result reaches another one", s)
		}
	}
}

// P10.3: the types of captured variables, parameters, results and fields are copied at every depth.
func TestFreshTypes(t *testing.T) {
	for _, deep := range []string{"[[[[int]]]]", "[[P]]", "fun([[int]], fun([[P]]): [[int]]): [[[V]]]", "fun(): fun([[int]]): [[int]]"} {
		unshared(t, patched(t, decls+strings.ReplaceAll("fun t(a: #): fun(#): # = let b = [a] in fun(c: #): # = (fun(): # = if len(b) == 0 then c else a)()", "#", deep)))
	}
	for _, deep := range []string{"[[[[int]]]]", "[[P]]", "[[ref Q]]"} {
		unshared(t, patched(t, strings.ReplaceAll(decls+`actor Q(a: #) { state s: # = (fun(): # = (fun(): # = a)())() on M(m: #) { let k = fun(): # = if s == m then s else m for i in [s] { let j = fun(x: #): [#] = [i, s, m, x] } } }
			convert actor Q(o: #) { s = (fun(): # = o)() } convert message Q.M(o: #, p: #) = M(o) convert message Q.N(o: #) = init((fun(): # = o)()) convert type X(o: #, p: #) = at([C], len([o, p]))`, "#", deep)))
	}
}
