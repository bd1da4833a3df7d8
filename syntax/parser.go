package syntax

import (
	"retroact/api"
	"retroact/lex"
)

// parser takes tokens from the left, and stops with a misfit at the first one with which no tree can be formed.
type parser struct {
	tokens []api.Token
	// next is the index of the first token that has not been taken.
	next int
	// size is the length of the source.
	size int
	// levels are those of the binary operators.
	levels map[string]int
	// inHead is whether an upper name is a primary although a "{" follows it.
	inHead bool
}

// parse parses a source of any number of forms of one nonterminal.
func parse(s string, one func(p *parser) api.Node) (api.Node, api.Errno, int) {
	tokens, e, at := lex.Scan(s)
	if e != api.OK {
		return api.Node{}, e, at
	}
	p := &parser{tokens: tokens, size: len(s), levels: binaryLevels()}
	n, ok := p.program(one)
	if !ok {
		return api.Node{}, api.ErrForm, p.offset()
	}
	if at, deep := firstDeep(n, 0); deep {
		return api.Node{}, api.ErrDeep, at
	}
	return n, api.OK, 0
}

// program parses all tokens, or reports false and leaves the first one with which no tree can be formed.
func (p *parser) program(one func(p *parser) api.Node) (n api.Node, ok bool) {
	defer func() {
		if recover() != nil {
			n, ok = api.Node{}, false
		}
	}()
	n.Kind = KProgram
	for p.next < len(p.tokens) {
		n.Kids = append(n.Kids, one(p))
	}
	return n, true
}

// token returns the next token, or the zero token if there is none.
func (p *parser) token() api.Token {
	if p.next == len(p.tokens) {
		return api.Token{}
	}
	return p.tokens[p.next]
}

// offset returns the offset of the next token, or the length of the source if there is none.
func (p *parser) offset() int {
	if p.next == len(p.tokens) {
		return p.size
	}
	return p.tokens[p.next].At
}

// word returns the next token if it is a name or a mark, and otherwise the empty string.
func (p *parser) word() string {
	x := p.token()
	if x.Kind != api.TName && x.Kind != api.TMark {
		return ""
	}
	return x.Text
}

// skip takes a word if it is the next token.
func (p *parser) skip(word string) bool {
	if p.word() != word {
		return false
	}
	p.next++
	return true
}

func (p *parser) take(word string) {
	if !p.skip(word) {
		panic(misfit{})
	}
}

func (p *parser) lower() string { return p.name(isLower) }

func (p *parser) upper() string { return p.name(isUpper) }

// name takes a name of a sort.
func (p *parser) name(is func(word string) bool) string {
	x := p.token()
	if x.Kind != api.TName || !is(x.Text) {
		panic(misfit{})
	}
	p.next++
	return x.Text
}

func (p *parser) integer() int {
	x := p.token()
	if x.Kind != api.TInt {
		panic(misfit{})
	}
	p.next++
	return x.N
}

// begin returns a node of a form that starts with the next token.
func (p *parser) begin(kind int) api.Node { return api.Node{Kind: kind, At: p.offset()} }

// open takes a mark within whose pair heads do not restrict expressions. It returns whether one did so before.
func (p *parser) open(mark string) (inHead bool) {
	p.take(mark)
	inHead, p.inHead = p.inHead, false
	return inHead
}

// close takes the second mark of a pair, behind which heads restrict expressions as before the first one.
func (p *parser) close(mark string, inHead bool) {
	p.take(mark)
	p.inHead = inHead
}

// list takes any number of forms, separated by commas, between two marks.
func (p *parser) list(first string, one func() api.Node, last string) []api.Node {
	var l []api.Node
	inHead := p.open(first)
	if p.word() != last {
		l = p.series(one)
	}
	p.close(last, inHead)
	return l
}

// some takes at least one form, separated by commas, between two marks.
func (p *parser) some(first string, one func() api.Node, last string) []api.Node {
	inHead := p.open(first)
	l := p.series(one)
	p.close(last, inHead)
	return l
}

func (p *parser) series(one func() api.Node) []api.Node {
	l := []api.Node{one()}
	for p.skip(",") {
		l = append(l, one())
	}
	return l
}

// rows takes any number of forms that nothing separates, and the "}" behind them.
func (p *parser) rows(one func() api.Node) []api.Node {
	var l []api.Node
	for !p.skip("}") {
		l = append(l, one())
	}
	return l
}
