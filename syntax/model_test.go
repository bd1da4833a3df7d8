package syntax

import (
	"math"
	"math/rand"
	"os"
	"runtime/debug"
	"slices"
	"strconv"
	"strings"
	"testing"

	"retroact/api"
	"retroact/lex"
)

// The tests make very many small trees: most of the time would go into collecting them.
func TestMain(m *testing.M) {
	debug.SetGCPercent(1000)
	os.Exit(m.Run())
}

// show writes a tree in one line: the kind without its K, Text, N and At of each node, and the kids in parentheses.
func show(n api.Node) string {
	var b strings.Builder
	b.WriteString(strings.TrimPrefix(kindNames[n.Kind], "K"))
	if kindNames[n.Kind] == "" {
		b.WriteString("?" + strconv.Itoa(n.Kind))
	}
	if n.Text != "" {
		b.WriteString(":" + n.Text)
	}
	if n.N != 0 {
		b.WriteString("#" + strconv.Itoa(n.N))
	}
	b.WriteString("@" + strconv.Itoa(n.At))
	for k, kid := range n.Kids {
		b.WriteString([]string{"(", " "}[min(k, 1)] + show(kid))
	}
	if len(n.Kids) > 0 {
		b.WriteString(")")
	}
	return b.String()
}

// equal compares trees with their offsets.
func equal(a, b api.Node) bool {
	return a.Kind == b.Kind && a.Text == b.Text && a.N == b.N && a.At == b.At && slices.EqualFunc(a.Kids, b.Kids, equal)
}

// deepCopy shares nothing with its argument.
func deepCopy(n api.Node) api.Node {
	n.Kids = slices.Clone(n.Kids)
	for k := range n.Kids {
		n.Kids[k] = deepCopy(n.Kids[k])
	}
	return n
}

func brief(s string) string {
	if len(s) <= 300 {
		return strconv.Quote(s)
	}
	return strconv.Quote(s[:150]) + "..." + strconv.Quote(s[len(s)-150:])
}

// parsers are the two functions that parse, with the nonterminals of the table that they are for.
var parsers = map[string]func(s string) (api.Node, api.Errno, int){"program": Parse, "patch": Patch}

// laid returns a source of tokens with a space before each, which depends on its place, and one at the end, and their offsets.
func laid(tokens []api.Token, space func(k int) string) (s string, offsets []int) {
	var b strings.Builder
	for k, x := range tokens {
		b.WriteString(space(k))
		offsets = append(offsets, b.Len())
		b.WriteString(lex.Write([]api.Token{x}))
	}
	b.WriteString(space(len(tokens)))
	return b.String(), offsets
}

// placed puts offsets for the places of tokens.
func placed(n api.Node, offsets []int) api.Node {
	n = deepCopy(n)
	if n.Kind == KProgram {
		n.At = 0
	} else {
		n.At = offsets[n.At]
	}
	for k := range n.Kids {
		n.Kids[k] = placed(n.Kids[k], offsets)
	}
	return n
}

// firstBelow finds the first node in pre-order that is too deep, by a list of all nodes.
func firstBelow(n api.Node) (at int, found bool) {
	type row struct {
		api.Node
		depth int
	}
	stack := []row{{n, 0}}
	for len(stack) > 0 {
		x := stack[len(stack)-1]
		stack = stack[:len(stack)-1]
		if x.depth == 41 {
			return x.At, true
		}
		for _, kid := range slices.Backward(x.Kids) {
			stack = append(stack, row{kid, x.depth + 1})
		}
	}
	return 0, false
}

// yields checks that a source has exactly this tree, or that this tree is too deep.
func yields(t *testing.T, start, s string, want api.Node) {
	t.Helper()
	n, e, at := parsers[start](s)
	if deep, found := firstBelow(want); found {
		if e != api.ErrDeep || at != deep || !equal(n, api.Node{}) {
			t.Fatalf("%s %s: error %d at %d; want %d at %d", start, brief(s), e, at, api.ErrDeep, deep)
		}
	} else if e != api.OK || at != 0 || !equal(n, want) {
		t.Fatalf("%s %s: error %d at %d\n%s; want\n%s", start, brief(s), e, at, show(n), show(want))
	}
}

// misfits checks that a source is no form at an offset.
func misfits(t *testing.T, start, s string, offset int) {
	t.Helper()
	n, e, at := parsers[start](s)
	if e != api.ErrForm || at != offset || !equal(n, api.Node{}) {
		t.Fatalf("%s %s: error %d at %d, %s; want %d at %d", start, brief(s), e, at, show(n), api.ErrForm, offset)
	}
}

func oneSpace(k int) string { return strings.Repeat(" ", min(k, 1)) }

// spaces makes white space and comments of all sorts. Without any, no tokens must run together.
func spaces(r *rand.Rand) func(k int) string {
	return func(int) string {
		l := []string{" ", "\t", "\r", "\n", "  ", "\r\n", " //\n", "\n// c\n", "\t//\"\n\r", " // a\n// b\n", " //// 01 !\n"}
		return l[r.Intn(len(l))]
	}
}

// arbitrary returns a source of numbers that is the same in each run.
func arbitrary(seed int64) *rand.Rand { return rand.New(rand.NewSource(seed)) }

// P8.1, P8.5: arbitrary programs and patch files have the trees that they were made of, with white space and comments of all sorts between the tokens.
func TestArbitrarySources(t *testing.T) {
	t.Parallel()
	g := &grower{Rand: arbitrary(1)}
	for k := range 6000 {
		start := []string{"program", "patch"}[k%2]
		tokens, n := g.grow(start, 1+g.Intn(80))
		for _, space := range []func(int) string{oneSpace, spaces(g.Rand)} {
			s, offsets := laid(tokens, space)
			if len(s) > api.MaxSource {
				continue
			}
			yields(t, start, s, placed(n, offsets))
			yields(t, "patch", s, placed(n, offsets))
		}
	}
}

// vocabulary are tokens of all sorts: every word of the grammar, names, integers, string literals and marks.
func vocabulary() []api.Token {
	var l []api.Token
	for _, s := range strings.Fields(reservedWords + " a init convert type message move to drop B ( ) { } [ ] , . : ; ? _ = + - * / % < > == != <= >= ++ => :-") {
		l = append(l, wordToken(s))
	}
	return append(l, api.Token{Kind: api.TInt, N: 1}, api.Token{Kind: api.TText}, api.Token{Kind: api.TText, Text: "("}, api.Token{Kind: api.TText, Text: "a"}, api.Token{Kind: api.TText, Text: "in"})
}

// holdsAt checks what becomes of some tokens and one more: the model tells whether there can be a form.
func holdsAt(t *testing.T, start string, p *prefix, s string, x api.Token) {
	t.Helper()
	source := s + lex.Write([]api.Token{x})
	if !p.allows(x) {
		misfits(t, start, source, len(s))
		misfits(t, start, source+" } } ) B ( 1 in", len(s))
		return
	}
	n, e, at := parsers[start](source)
	if p.with(x).done() {
		if e != api.OK || at != 0 || !Right(n) {
			t.Fatalf("%s %s: error %d at %d, %s", start, brief(source), e, at, show(n))
		}
	} else if e != api.ErrForm || at != len(source) {
		t.Fatalf("%s %s: error %d at %d; want %d at the end, %d", start, brief(source), e, at, api.ErrForm, len(source))
	}
}

// P8.1, P8.5: behind every beginning of each of the sources, every word and every sort of token:
// the error is at the first token with which no form can be continued, or at the end if tokens are missing.
func TestEveryNextToken(t *testing.T) {
	t.Parallel()
	words := vocabulary()
	for _, s := range samples() {
		tokens, e, _ := lex.Scan(s)
		if e != api.OK {
			t.Fatal(s, e)
		}
		for _, start := range []string{"program", "patch"} {
			p := theGrammar.begin(start)
			before := ""
			for k, x := range tokens {
				for _, y := range words {
					holdsAt(t, start, p, before, y)
				}
				if !p.allows(x) {
					misfits(t, start, s, x.At)
					break
				}
				p = p.with(x)
				before += lex.Write(tokens[k:k+1]) + " "
				if k+1 == len(tokens) && !p.done() {
					misfits(t, start, s, len(s))
				}
			}
		}
	}
}

// P8.1: each of the sources without one of its tokens, with one twice, and with two exchanged.
func TestChangedTokens(t *testing.T) {
	t.Parallel()
	for _, s := range samples() {
		tokens, _, _ := lex.Scan(s)
		for k := range tokens {
			asModel(t, slices.Delete(slices.Clone(tokens), k, k+1))
			asModel(t, slices.Insert(slices.Clone(tokens), k, tokens[k]))
			if k > 0 {
				l := slices.Clone(tokens)
				l[k-1], l[k] = l[k], l[k-1]
				asModel(t, l)
			}
		}
	}
}

// asModel checks that tokens are parsed as the model has it: the tree, which is the only one, or the error.
func asModel(t *testing.T, tokens []api.Token) {
	t.Helper()
	s, offsets := laid(tokens, oneSpace)
	for start := range parsers {
		p := theGrammar.begin(start)
		wrong := -1
		for k, x := range tokens {
			if !p.allows(x) {
				wrong = offsets[k]
				break
			}
			p = p.with(x)
		}
		switch {
		case wrong >= 0:
			misfits(t, start, s, wrong)
		case !p.done():
			misfits(t, start, s, len(s))
		default:
			l := theGrammar.trees(start, tokens)
			if len(l) != 1 {
				t.Fatalf("%s has %d trees", s, len(l))
			}
			yields(t, start, s, placed(l[0], offsets))
		}
	}
}

// extends checks all tokens of a vocabulary behind some, and behind those with which a form is possible again, up to a number of them.
// What is then complete with an ending has the tree that the model finds, which is the only one.
func extends(t *testing.T, start string, p *prefix, tokens, words, ending []api.Token, more int) {
	s := lex.Write(tokens)
	if s != "" {
		s += " "
	}
	for _, x := range words {
		holdsAt(t, start, p, s, x)
		if !p.allows(x) {
			continue
		}
		l := append(slices.Clip(tokens), x)
		q := p.with(x)
		if all := slices.Concat(l, ending); q.isDoneWith(ending) {
			found := theGrammar.trees(start, all)
			if len(found) != 1 {
				t.Fatalf("%s has %d trees", lex.Write(all), len(found))
			}
			source, offsets := laid(all, oneSpace)
			yields(t, start, source, placed(found[0], offsets))
		}
		if more > 1 {
			extends(t, start, q, l, words, ending, more-1)
		}
	}
}

// isDoneWith reports whether the tokens are a form with others behind them.
func (p *prefix) isDoneWith(ending []api.Token) bool {
	for _, x := range ending {
		if !p.allows(x) {
			return false
		}
		p = p.with(x)
	}
	return p.done()
}

// P8.1: all short sequences out of some tokens, in places of all sorts.
func TestShortSequences(t *testing.T) {
	t.Parallel()
	for _, c := range []struct {
		start, before, words, after string
		count                       int
	}{
		{"program", "fun f(): int =", "a B 1 ( ) - not + < and", "", 5},
		{"program", "fun f(): int =", "a * + ++ == or and not", "", 5},
		{"program", "fun f(): int =", "a B ( ) { } = , . with", "", 5},
		{"program", "fun f(): int =", "let if then else in match fun a = _ =>", "", 5},
		{"program", "fun f(): int = match", "a B ( ) [ ] { } = with _ =>", "{ _ => a }", 4},
		{"program", "fun f(): int = match B", "B ( ) { } _ => a ,", "", 5},
		{"program", "actor A() { on M() { if", "a B ( ) [ ] { } = with", "} }", 5},
		{"program", "actor A() { on M() { match", "a B ( ) { } = match _ =>", "{ _ { } } } }", 4},
		{"program", "actor A() { on M() { for a in", "a B ( ) { } =", "} }", 5},
		{"program", "actor A() { on M() {", "a B ( ) = let spawn on send , 1", "} }", 4},
		{"program", "actor A() { on M() {", "if else { } a stop fail do then B ( )", "} }", 4},
		{"program", "actor A() { on M() {", "after 1 send self B ( ) a =", "} }", 5},
		{"program", "fun f(", "a : int B [ ] ref fun ( ) ,", "): int = 1", 4},
		{"program", "variant V", "A { } ( ) , int", "}", 5},
		{"program", "actor A()", "{ } on state restart 1 escalate M ( ) a : = int", "", 4},
		{"program", "", "record variant effect fun actor A f { } ( ) :", "", 4},
		{"patch", "convert", "type actor message A init . ( ) = 1 { }", "", 5},
		{"patch", "convert message A.init() =", "A init . ( ) = 1 ,", "", 5},
		{"patch", "", "move drop A to 1 convert fun record { }", "", 4},
	} {
		scan := func(s string) []api.Token {
			l, e, _ := lex.Scan(s)
			if e != api.OK {
				t.Fatal(s, e)
			}
			for k := range l {
				l[k].At = 0
			}
			return l
		}
		p := theGrammar.begin(c.start)
		for _, x := range scan(c.before) {
			if !p.allows(x) {
				t.Fatal(c.before, x)
			}
			p = p.with(x)
		}
		extends(t, c.start, p, scan(c.before), scan(c.words), scan(c.after), c.count)
	}
}

// asWritten checks Right, Tokens and Write of a tree against the model, and that what was written has the same tree.
func asWritten(t *testing.T, n api.Node) {
	t.Helper()
	want, right := modelTokens(n)
	if Right(n) != right {
		t.Fatalf("Right(%s) = %v", brief(show(n)), !right)
	}
	l, s := Tokens(n), Write(n)
	if !slices.Equal(l, want) || s != lex.Write(want) {
		t.Fatalf("Tokens(%s) is\n%s; want\n%s", brief(show(n)), brief(s), brief(lex.Write(want)))
	}
	if !right || len(s) > api.MaxSource {
		return
	}
	back, e, at := Patch(s)
	if e != api.OK || !Same(back, n) || !Same(n, back) {
		t.Fatalf("Patch(%s): error %d at %d, %s; want %s", brief(s), e, at, brief(show(back)), brief(show(n)))
	}
	if again := Write(back); again != s {
		t.Fatalf("%s is written as %s", brief(s), brief(again))
	}
}

// P8.2, P8.3, P8.5: arbitrary trees are written with the parentheses of the chapter, and come back.
func TestArbitraryTrees(t *testing.T) {
	t.Parallel()
	g := &grower{Rand: arbitrary(2)}
	for k := range 6000 {
		_, n := g.grow([]string{"program", "patch"}[k%2], 1+g.Intn(80))
		asWritten(t, n)
	}
}

// P8.3: every form of an expression as each operand, and in each other place, of every form.
func TestEveryOperand(t *testing.T) {
	t.Parallel()
	var forms []api.Node
	for _, s := range expressionForms() {
		forms = append(forms, expressionOf(t, s))
	}
	for _, n := range forms {
		// The pieces that are put into it must not be parts of it.
		n = deepCopy(n)
		eachNode(&n, func(x *api.Node) {
			if !isExpression(x.Kind) {
				return
			}
			old := *x
			for _, y := range forms {
				*x = y
				asWritten(t, inFunction(n))
				asWritten(t, inHeadOf(n))
			}
			*x = old
		})
	}
}

func isExpression(kind int) bool {
	return KInt <= kind && kind <= KLambda && kind != KSet && kind != KArm && kind != KBind
}

// eachNode calls a function for every node of a tree.
func eachNode(n *api.Node, do func(x *api.Node)) {
	do(n)
	for k := range n.Kids {
		eachNode(&n.Kids[k], do)
	}
}

func expressionOf(t *testing.T, s string) api.Node {
	t.Helper()
	n, e, at := Parse("fun f(): int = " + s)
	if e != api.OK {
		t.Fatal(s, e, at)
	}
	return n.Kids[0].Kids[1]
}

func node(kind int, text string, n int, kids ...api.Node) api.Node {
	return api.Node{Kind: kind, Text: text, N: n, Kids: kids}
}

// inFunction is a program with an expression as the body of a function.
func inFunction(x api.Node) api.Node {
	return node(KProgram, "", 0, node(KFun, "f", 0, node(KTypeName, "int", 0), x))
}

// inStatement is a program with a statement.
func inStatement(x ...api.Node) api.Node {
	return node(KProgram, "", 0, node(KActor, "A", 0, node(KOn, "M", 0, node(KBlock, "", 0, x...))))
}

// inHeadOf is a program with an expression as the head of every form that has one, and in the other places of statements.
func inHeadOf(x api.Node) api.Node {
	block := node(KBlock, "", 0)
	return inStatement(
		node(KSIf, "", 0, x, block),
		node(KSIf, "", 0, x, block, block),
		node(KSMatch, "", 0, x, node(KSArm, "_", 0, block)),
		node(KSFor, "a", 0, x, block),
		node(KSLet, "a", 0, node(KMatch, "", 0, x, node(KArm, "B", 0, x))),
		node(KSSend, "M", 0, x),
		node(KSSend, "M", 0, x, x),
		node(KSAfter, "", 0, x, node(KSSend, "M", 0, x, x)),
		node(KSSpawn, "A", 1, node(KBind, "_", 0), x, x),
		node(KSSpawn, "A", 0, node(KBind, "b", 0), x),
		node(KSDo, "e", 0, x, node(KMsg, "M", 0)),
		node(KSFail, "", 0, x),
		node(KSSet, "a", 0, x),
	)
}

// oddTexts and oddNumbers are put into nodes for which some of them are right.
func oddTexts() []string {
	return append(strings.Fields(reservedWords), "", "a", "B", "init", "move", "_", "a_1", "A_1", "1", "_a", "aB", "+", "-", "*", "/", "%", "==", "!=", "<", "<=", ">", ">=", "++", "=", "=>", "(", "a b", "a ", " a", "a\n", "B\n", "a.b", "\xff", "a\x00", "ä", "Ä", "// c")
}

var oddNumbers = []int{0, 1, 2, 3, -1, -2, -3, 100, api.MaxNum - 1, api.MaxNum, api.MaxNum + 1, api.MaxNum + 2, 1 << 60, -api.MaxNum, math.MaxInt, math.MaxInt - 1, math.MinInt, math.MinInt + 1}

// parts returns a node of each kind and some of their kinds in other forms, all of them out of the samples.
func parts(t *testing.T) []api.Node {
	t.Helper()
	seen := map[string]bool{}
	var l []api.Node
	for _, s := range samples() {
		n, e, _ := Patch(s)
		if e != api.OK {
			t.Fatal(s, e)
		}
		eachNode(&n, func(x *api.Node) {
			if name := kindNames[x.Kind] + strconv.Itoa(x.N) + strconv.Itoa(len(x.Kids)); !seen[name] && len(show(*x)) < 60 {
				seen[name] = true
				l = append(l, deepCopy(*x))
			}
		})
	}
	return append(l, api.Node{}, api.Node{Kids: []api.Node{{}}}, api.Node{Kind: -1}, api.Node{Kind: 42}, api.Node{Kind: 16, Text: "a"}, api.Node{Kind: math.MaxInt}, api.Node{Kind: math.MinInt})
}

// eachSampleNode calls a function for nodes of the samples' trees, in their trees: for several that have a kind and as many kids.
func eachSampleNode(do func(n, x *api.Node)) {
	calls := map[[2]int]int{}
	for _, s := range samples() {
		n, _, _ := Patch(s)
		eachNode(&n, func(x *api.Node) {
			sort := [2]int{x.Kind, len(x.Kids)}
			if calls[sort] < 5 || x.Kind == KBin && calls[sort] < 60 {
				calls[sort]++
				do(&n, x)
			}
		})
	}
}

// P8.2, P8.3: trees that are wrong in one place, or right in another way.
func TestChangedTrees(t *testing.T) {
	t.Parallel()
	pieces := parts(t)
	eachSampleNode(func(n, x *api.Node) {
		old := *x
		for k := -1; k <= 77; k++ {
			x.Kind = k
			asWritten(t, *n)
		}
		*x = old
		for _, text := range oddTexts() {
			x.Text = text
			asWritten(t, *n)
		}
		*x = old
		for _, number := range oddNumbers {
			x.N = number
			asWritten(t, *n)
		}
		*x = old
		for _, piece := range pieces {
			*x = piece
			asWritten(t, *n)
		}
		*x = old
	})
}

// P8.2, P8.3: trees in which a node has a kid more or less, or two of them exchanged.
func TestChangedKids(t *testing.T) {
	t.Parallel()
	pieces := parts(t)
	eachSampleNode(func(n, x *api.Node) {
		old := x.Kids
		for k := range old {
			x.Kids = slices.Delete(slices.Clone(old), k, k+1)
			asWritten(t, *n)
			x.Kids = old[:k]
			asWritten(t, *n)
			x.Kids = old[k:]
			asWritten(t, *n)
			x.Kids = slices.Clone(old)
			x.Kids[0], x.Kids[k] = x.Kids[k], x.Kids[0]
			asWritten(t, *n)
		}
		for k := range len(old) + 1 {
			for _, piece := range pieces {
				x.Kids = slices.Insert(slices.Clone(old), k, piece)
				asWritten(t, *n)
			}
		}
		x.Kids = old
	})
}

// P1, P8.2: nodes of arbitrary kinds, texts and numbers one in the other.
func TestArbitraryNodes(t *testing.T) {
	t.Parallel()
	r := arbitrary(3)
	texts := append(oddTexts(), "a", "B", "", "_")
	kinds := []int{0, -1, 16, 99}
	for k := range kindNames {
		kinds = append(kinds, k)
	}
	slices.Sort(kinds)
	var make func(room int) api.Node
	make = func(room int) api.Node {
		n := api.Node{Kind: kinds[r.Intn(len(kinds))], At: r.Intn(5) - 2}
		if r.Intn(2) == 0 {
			n.Text = texts[r.Intn(len(texts))]
		}
		if r.Intn(3) == 0 {
			n.N = oddNumbers[r.Intn(len(oddNumbers))]
		}
		for range r.Intn(room + 1) {
			n.Kids = append(n.Kids, make(room-1))
		}
		return n
	}
	for range 20000 {
		n := make(3)
		asWritten(t, n)
		asWritten(t, node(KProgram, "", 0, n))
		asWritten(t, inFunction(n))
		asWritten(t, inStatement(n))
	}
}
