package value

import (
	"strings"

	"retroact/api"
	"retroact/num"
)

// parse parses the form of a value at the beginning of s. The function rest returns the input behind it. The value has no VFun and no VSpan; whether it is valid depends on its paths and on the lengths of its texts and lists alone.
func parse(s string) (v api.Value, rest func() string, ok bool) {
	p := &parser{input: s}
	v, ok = p.value()
	return v, p.rest, ok
}

// parser parses what a formatter writes. Where it reports false, its other results are of no use.
type parser struct {
	input string
	// nodes counts the nodes that were begun. No input lets the parser nest more of them than a valid value has.
	nodes int
}

func (p *parser) rest() string { return p.input }

func (p *parser) value() (v api.Value, ok bool) {
	p.nodes++
	if p.nodes > api.MaxValue {
		return v, false
	}
	word := p.run(isWordByte)
	switch {
	case word == "false":
		v, ok = api.Value{Kind: api.VBool}, true
	case word == "true":
		v, ok = api.Value{Kind: api.VBool, N: 1}, true
	case isTypeName(word):
		v, ok = p.named(word)
	case word != "":
		v.Kind = api.VInt
		v.N, ok = num.Parse(word, -api.MaxNum, api.MaxNum)
	case p.skip("()"):
		v, ok = api.Value{Kind: api.VUnit}, true
	case p.skip(`"`):
		v.Kind = api.VText
		v.S, ok = p.text()
	case p.skip("["):
		v.Kind = api.VList
		v.L, ok = p.list("]")
	}
	return v, ok
}

// named parses what follows the name of a type.
func (p *parser) named(name string) (v api.Value, ok bool) {
	v.T = name
	switch {
	case p.skip("{"):
		v.Kind = api.VRec
		v.L, ok = p.list("}")
	case p.skip("@"):
		v.Kind = api.VRef
		v.S, ok = p.run(isPathByte), true
	case p.skip("#"):
		v.Kind = api.VVar
		v.N, ok = num.Parse(p.run(isWordByte), 0, maxCtor)
		if !ok || !p.skip("(") {
			return v, false
		}
		v.L, ok = p.list(")")
	}
	return v, ok
}

// list parses what follows the opening mark of a list.
func (p *parser) list(closing string) ([]api.Value, bool) {
	if p.skip(closing) {
		return nil, true
	}
	var l []api.Value
	for {
		x, ok := p.value()
		if !ok {
			return nil, false
		}
		l = append(l, x)
		if p.skip(closing) {
			return l, true
		}
		if !p.skip(separator) {
			return nil, false
		}
	}
}

// text parses what follows the opening quote of a text.
func (p *parser) text() (string, bool) {
	var out strings.Builder
	for p.input != "" {
		c := p.input[0]
		p.input = p.input[1:]
		switch {
		case c == '"':
			return out.String(), true
		case c == '\\':
			place := p.escape()
			if place < 0 {
				return "", false
			}
			c = meanings[place]
		case strings.IndexByte(meanings, c) >= 0:
			return "", false
		}
		out.WriteByte(c)
	}
	return "", false
}

// escape consumes what follows a backslash and returns its place in escapes, which is negative if it has none.
func (p *parser) escape() int {
	for place := range len(escapes) {
		if p.skip(escapes[place : place+1]) {
			return place
		}
	}
	return -1
}

// skip consumes a mark if the input begins with it.
func (p *parser) skip(mark string) bool {
	rest, ok := strings.CutPrefix(p.input, mark)
	p.input = rest
	return ok
}

// run consumes the bytes of a sort at the beginning of the input.
func (p *parser) run(is func(c byte) bool) string {
	size := 0
	for size < len(p.input) && is(p.input[size]) {
		size++
	}
	s := p.input[:size]
	p.input = p.input[size:]
	return s
}

// isWordByte reports whether a byte occurs in names and integers.
func isWordByte(c byte) bool {
	return 'a' <= c && c <= 'z' || 'A' <= c && c <= 'Z' || isDigit(c) || c == '_' || c == '-'
}

func isPathByte(c byte) bool { return isDigit(c) || c == '.' }

func isDigit(c byte) bool { return '0' <= c && c <= '9' }
