package syntax

import (
	"retroact/api"
	"retroact/lex"
)

// writer collects tokens, and stops with a misfit at a node that no tokens form.
type writer struct {
	tokens []api.Token
	// levels are those of the binary operators.
	levels map[string]int
}

// form is a node that is being written. What has been written is taken from it, so that nothing is left of a node that its tokens form.
type form struct {
	*writer
	left api.Node
}

// written returns the tokens of a tree, or reports false if it is not the tree of any tokens or is too deep.
func written(n api.Node) (l []api.Token, ok bool) {
	defer func() {
		if recover() != nil {
			l, ok = nil, false
		}
	}()
	if _, deep := firstDeep(n, 0); deep {
		return nil, false
	}
	w := &writer{levels: binaryLevels()}
	f := w.begin(n, KProgram)
	for _, kid := range f.rest() {
		w.part(kid)
	}
	f.end()
	return w.tokens, true
}

func require(holds bool) {
	if !holds {
		panic(misfit{})
	}
}

// open starts to write a node.
func (w *writer) open(n api.Node) *form { return &form{w, n} }

// begin starts to write a node that must be of a kind.
func (w *writer) begin(n api.Node, kind int) *form {
	require(n.Kind == kind)
	return w.open(n)
}

// end requires that all of the node has been written.
func (f *form) end() {
	require(f.left.Text == "" && f.left.N == 0 && len(f.left.Kids) == 0)
}

// add writes a token, which must be valid.
func (w *writer) add(x api.Token) {
	require(lex.Write([]api.Token{x}) != "")
	w.tokens = append(w.tokens, x)
}

func (w *writer) name(word string) { w.add(api.Token{Kind: api.TName, Text: word}) }

func (w *writer) mark(word string) { w.add(api.Token{Kind: api.TMark, Text: word}) }

func (w *writer) integer(n int) { w.add(api.Token{Kind: api.TInt, N: n}) }

// list writes nodes, separated by commas, between two marks.
func (w *writer) list(first string, l []api.Node, one func(n api.Node), last string) {
	w.mark(first)
	for k, n := range l {
		if k > 0 {
			w.mark(",")
		}
		one(n)
	}
	w.mark(last)
}

// some writes at least one node, separated by commas, between two marks.
func (w *writer) some(first string, l []api.Node, one func(n api.Node), last string) {
	require(len(l) > 0)
	w.list(first, l, one, last)
}

// optional writes nodes as some does, or nothing if there are none.
func (w *writer) optional(first string, l []api.Node, one func(n api.Node), last string) {
	if len(l) > 0 {
		w.list(first, l, one, last)
	}
}

// text takes the Text.
func (f *form) text() string {
	s := f.left.Text
	f.left.Text = ""
	return s
}

// number takes the N.
func (f *form) number() int {
	n := f.left.N
	f.left.N = 0
	return n
}

// kids takes the first kids, of which there must be as many.
func (f *form) kids(count int) []api.Node {
	require(0 <= count && count <= len(f.left.Kids))
	l := f.left.Kids[:count]
	f.left.Kids = f.left.Kids[count:]
	return l
}

func (f *form) kid() api.Node { return f.kids(1)[0] }

// rest takes all kids that are left.
func (f *form) rest() []api.Node { return f.kids(len(f.left.Kids)) }

// front takes the kids up to the first that is not of a kind.
func (f *form) front(kind int) []api.Node {
	count := 0
	for count < len(f.left.Kids) && f.left.Kids[count].Kind == kind {
		count++
	}
	return f.kids(count)
}

// allBut takes the kids up to a number of last ones.
func (f *form) allBut(count int) []api.Node { return f.kids(len(f.left.Kids) - count) }

// lower writes the Text as a lower name.
func (f *form) lower() { f.textAs(isLower) }

// upper writes the Text as an upper name.
func (f *form) upper() { f.textAs(isUpper) }

func (f *form) textAs(is func(word string) bool) {
	word := f.text()
	require(is(word))
	f.name(word)
}
