package syntax

import "retroact/api"

func (w *writer) block(n api.Node) {
	f := w.begin(n, KBlock)
	f.mark("{")
	for _, kid := range f.rest() {
		f.stmt(kid)
	}
	f.mark("}")
	f.end()
}

func (w *writer) stmt(n api.Node) {
	f := w.open(n)
	switch n.Kind {
	case KSLet:
		f.name("let")
		f.assignment()
	case KSSet:
		f.assignment()
	case KSIf:
		f.ifStmt()
	case KSMatch:
		f.matchStmt()
	case KSFor:
		f.name("for")
		f.lower()
		f.name("in")
		f.head(f.kid())
		f.block(f.kid())
	case KSSend:
		f.send()
	case KSAfter:
		f.name("after")
		f.expr(f.kid())
		send := f.begin(f.kid(), KSSend)
		send.send()
		send.end()
	default:
		f.effectStmt(n.Kind)
	}
	f.end()
}

// effectStmt writes a statement that is none of those above.
func (f *form) effectStmt(kind int) {
	switch kind {
	case KSSpawn:
		f.spawn()
	case KSDo:
		f.do()
	case KSStop:
		f.name("stop")
	case KSFail:
		f.name("fail")
		f.expr(f.kid())
	default:
		panic(misfit{})
	}
}

// assignment writes a name, "=" and an expression.
func (f *form) assignment() {
	f.lower()
	f.mark("=")
	f.expr(f.kid())
}

func (f *form) ifStmt() {
	f.name("if")
	f.head(f.kid())
	f.block(f.kid())
	if len(f.left.Kids) > 0 {
		f.name("else")
		f.block(f.kid())
	}
}

func (f *form) matchStmt() {
	f.name("match")
	f.head(f.kid())
	f.mark("{")
	arms := f.rest()
	require(len(arms) > 0)
	for _, n := range arms {
		f.stmtArm(n)
	}
	f.mark("}")
}

func (w *writer) stmtArm(n api.Node) {
	f := w.begin(n, KSArm)
	f.pattern()
	f.block(f.kid())
	f.end()
}

func (f *form) send() {
	f.name("send")
	f.expr(f.kid())
	f.upper()
	f.list("(", f.rest(), f.expr, ")")
}

func (f *form) spawn() {
	bind := f.begin(f.kid(), KBind)
	if bind.left.Text == "_" {
		bind.text()
	} else {
		f.name("let")
		bind.lower()
		f.mark("=")
	}
	bind.end()
	f.name("spawn")
	f.upper()
	switch f.number() {
	case 0:
		f.list("(", f.rest(), f.expr, ")")
	case 1:
		f.list("(", f.allBut(1), f.expr, ")")
		f.name("on")
		f.expr(f.kid())
	default:
		panic(misfit{})
	}
}

func (f *form) do() {
	f.name("do")
	f.lower()
	f.list("(", f.allBut(1), f.expr, ")")
	f.name("then")
	reply := f.begin(f.kid(), KMsg)
	reply.upper()
	reply.end()
}

// pattern writes the Text and the bindings of an arm.
func (f *form) pattern() {
	if f.left.Text == "_" {
		f.mark(f.text())
		return
	}
	f.upper()
	f.optional("(", f.front(KBind), f.bind, ")")
}

func (w *writer) bind(n api.Node) {
	f := w.begin(n, KBind)
	if f.left.Text == "_" {
		f.mark(f.text())
	} else {
		f.lower()
	}
	f.end()
}
