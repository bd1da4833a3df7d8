package syntax

import "retroact/api"

// head writes an expression in parentheses, whatever its form, so that no "{" in it can be taken for the one behind it.
func (w *writer) head(n api.Node) { w.list("(", []api.Node{n}, w.expr, ")") }

// operand writes an expression, in parentheses if its form is below a level.
func (w *writer) operand(n api.Node, least int) {
	if w.level(n) < least {
		w.list("(", []api.Node{n}, w.expr, ")")
	} else {
		w.expr(n)
	}
}

// level returns the level of an expression's form.
func (w *writer) level(n api.Node) int {
	switch n.Kind {
	case KLet, KIf, KMatch, KLambda:
		return exprLevel
	case KBin:
		return w.levels[n.Text]
	case KNot:
		return notLevel
	case KNeg:
		return negLevel
	case KCall, KGet, KWith:
		return postfixLevel
	}
	return primaryLevel
}

func (w *writer) expr(n api.Node) {
	f := w.open(n)
	switch n.Kind {
	case KLet:
		f.name("let")
		f.assignment()
		f.name("in")
		f.expr(f.kid())
	case KIf:
		f.ifExpr()
	case KMatch:
		f.name("match")
		f.head(f.kid())
		f.some("{", f.rest(), f.arm, "}")
	case KLambda:
		f.name("fun")
		f.function()
	case KBin:
		f.binary()
	case KNot:
		f.name("not")
		f.operand(f.kid(), notLevel)
	case KNeg:
		f.mark("-")
		f.operand(f.kid(), negLevel)
	case KCall:
		f.call()
	case KGet:
		f.operand(f.kid(), postfixLevel)
		f.mark(".")
		f.lower()
	case KWith:
		f.operand(f.kid(), postfixLevel)
		f.name("with")
		f.some("{", f.rest(), f.set, "}")
	default:
		f.primary(n.Kind)
	}
	f.end()
}

func (f *form) ifExpr() {
	f.name("if")
	f.expr(f.kid())
	f.name("then")
	f.expr(f.kid())
	f.name("else")
	f.expr(f.kid())
}

func (w *writer) arm(n api.Node) {
	f := w.begin(n, KArm)
	f.pattern()
	f.mark("=>")
	f.expr(f.kid())
	f.end()
}

func (f *form) binary() {
	word := f.text()
	level, found := f.levels[word]
	require(found)
	left, right := operandLevels(level)
	f.operand(f.kid(), left)
	if level <= andLevel {
		f.name(word)
	} else {
		f.mark(word)
	}
	f.operand(f.kid(), right)
}

func (f *form) call() {
	callee := f.kid()
	least := postfixLevel
	// Without parentheses, the arguments would be those of the constructor.
	if callee.Kind == KCons && len(callee.Kids) == 0 {
		least = primaryLevel + 1
	}
	f.operand(callee, least)
	f.list("(", f.rest(), f.expr, ")")
}

func (w *writer) set(n api.Node) {
	f := w.begin(n, KSet)
	f.assignment()
	f.end()
}

func (f *form) primary(kind int) {
	switch kind {
	case KInt:
		f.integer(f.number())
	case KText:
		f.add(api.Token{Kind: api.TText, Text: f.text()})
	case KBool:
		f.boolean()
	case KUnit:
		f.list("(", nil, f.expr, ")")
	case KName:
		f.lower()
	case KSelf:
		f.name("self")
	case KList:
		f.list("[", f.rest(), f.expr, "]")
	case KNew:
		f.upper()
		f.list("{", f.rest(), f.set, "}")
	case KCons:
		f.upper()
		f.optional("(", f.rest(), f.expr, ")")
	default:
		panic(misfit{})
	}
}

func (f *form) boolean() {
	switch f.number() {
	case 0:
		f.name("false")
	case 1:
		f.name("true")
	default:
		panic(misfit{})
	}
}
