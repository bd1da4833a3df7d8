package syntax

import "retroact/api"

// head parses an expression of which a "{" behind it is no part.
func (p *parser) head() api.Node {
	inHead := p.inHead
	p.inHead = true
	n := p.expr()
	p.inHead = inHead
	return n
}

func (p *parser) expr() api.Node {
	switch p.word() {
	case "let":
		return p.letExpr()
	case "if":
		return p.ifExpr()
	case "match":
		return p.matchExpr()
	case "fun":
		return p.lambda()
	}
	return p.operand(orLevel)
}

func (p *parser) exprs() []api.Node { return p.list("(", p.expr, ")") }

func (p *parser) letExpr() api.Node {
	n := p.begin(KLet)
	p.take("let")
	n.Text = p.lower()
	p.take("=")
	n.Kids = []api.Node{p.expr()}
	p.take("in")
	n.Kids = append(n.Kids, p.expr())
	return n
}

func (p *parser) ifExpr() api.Node {
	n := p.begin(KIf)
	p.take("if")
	n.Kids = []api.Node{p.expr()}
	p.take("then")
	n.Kids = append(n.Kids, p.expr())
	p.take("else")
	n.Kids = append(n.Kids, p.expr())
	return n
}

func (p *parser) matchExpr() api.Node {
	n := p.begin(KMatch)
	p.take("match")
	n.Kids = []api.Node{p.head()}
	n.Kids = append(n.Kids, p.some("{", p.arm, "}")...)
	return n
}

func (p *parser) arm() api.Node {
	n := p.pattern(KArm)
	p.take("=>")
	n.Kids = append(n.Kids, p.expr())
	return n
}

func (p *parser) lambda() api.Node {
	n := p.begin(KLambda)
	p.take("fun")
	n.Kids = p.signature()
	p.take("=")
	n.Kids = append(n.Kids, p.expr())
	return n
}

// operand parses an expression of at least a level between orLevel and negLevel.
func (p *parser) operand(least int) api.Node {
	at := p.offset()
	n, formed := p.unary(least)
	for {
		word := p.word()
		level := p.levels[word]
		left, right := operandLevels(level)
		if level < least || formed < left {
			return n
		}
		p.take(word)
		n = api.Node{Kind: KBin, Text: word, At: at, Kids: []api.Node{n, p.operand(right)}}
		formed = level
	}
}

// unary parses an expression of at least a level, up to a binary operator, and returns the level that its form has.
func (p *parser) unary(least int) (n api.Node, level int) {
	switch {
	case p.word() == "not" && least <= notLevel:
		return p.prefixed(KNot, notLevel), notLevel
	case p.word() == "-":
		return p.prefixed(KNeg, negLevel), negLevel
	}
	return p.postfix(), postfixLevel
}

// prefixed parses a unary operator and its operand, which is of the operator's level.
func (p *parser) prefixed(kind, level int) api.Node {
	n := p.begin(kind)
	p.take(p.word())
	n.Kids = []api.Node{p.operand(level)}
	return n
}

func (p *parser) postfix() api.Node {
	at := p.offset()
	n := p.primary()
	for {
		switch p.word() {
		case "(":
			n = api.Node{Kind: KCall, Kids: append([]api.Node{n}, p.exprs()...)}
		case ".":
			p.take(".")
			n = api.Node{Kind: KGet, Text: p.lower(), Kids: []api.Node{n}}
		case "with":
			p.take("with")
			n = api.Node{Kind: KWith, Kids: append([]api.Node{n}, p.some("{", p.set, "}")...)}
		default:
			return n
		}
		n.At = at
	}
}

func (p *parser) set() api.Node { return p.assignment(KSet) }

func (p *parser) primary() api.Node {
	x := p.token()
	switch {
	case x.Kind == api.TInt:
		p.next++
		return api.Node{Kind: KInt, N: x.N, At: x.At}
	case x.Kind == api.TText:
		p.next++
		return api.Node{Kind: KText, Text: x.Text, At: x.At}
	case x.Kind == api.TName && isLower(x.Text):
		p.next++
		return api.Node{Kind: KName, Text: x.Text, At: x.At}
	case x.Kind == api.TName && isUpper(x.Text):
		return p.construction()
	}
	return p.fixed()
}

// construction parses a primary that starts with an upper name.
func (p *parser) construction() api.Node {
	n := p.begin(KCons)
	n.Text = p.upper()
	switch {
	case p.word() == "(":
		n.Kids = p.some("(", p.expr, ")")
	case p.word() == "{" && !p.inHead:
		n.Kind = KNew
		n.Kids = p.list("{", p.set, "}")
	}
	return n
}

// fixed parses a primary that starts with a reserved word or a mark.
func (p *parser) fixed() api.Node {
	n := p.begin(KBool)
	switch {
	case p.skip("true"):
		n.N = 1
	case p.skip("false"):
	case p.skip("self"):
		n.Kind = KSelf
	case p.word() == "[":
		n.Kind = KList
		n.Kids = p.list("[", p.expr, "]")
	default:
		return p.parenthesized()
	}
	return n
}

// parenthesized parses the unit or an expression in parentheses, which are no part of it.
func (p *parser) parenthesized() api.Node {
	n := p.begin(KUnit)
	inHead := p.open("(")
	if p.word() != ")" {
		n = p.expr()
	}
	p.close(")", inHead)
	return n
}
