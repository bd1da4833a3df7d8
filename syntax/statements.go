package syntax

import "retroact/api"

func (p *parser) block() api.Node {
	n := p.begin(KBlock)
	p.take("{")
	n.Kids = p.rows(p.stmt)
	return n
}

func (p *parser) stmt() api.Node {
	switch p.word() {
	case "let":
		return p.letStmt()
	case "spawn":
		at := p.offset()
		return p.spawn(at, api.Node{Kind: KBind, Text: "_", At: at})
	case "if":
		return p.ifStmt()
	case "match":
		return p.matchStmt()
	case "for":
		return p.forStmt()
	case "send":
		return p.send()
	case "after":
		return p.after()
	case "do":
		return p.do()
	case "stop":
		return p.stop()
	case "fail":
		return p.fail()
	}
	return p.assignment(KSSet)
}

func (p *parser) letStmt() api.Node {
	n := p.begin(KSLet)
	p.take("let")
	bind := p.begin(KBind)
	bind.Text = p.lower()
	p.take("=")
	if p.word() == "spawn" {
		return p.spawn(n.At, bind)
	}
	n.Text = bind.Text
	n.Kids = []api.Node{p.expr()}
	return n
}

// spawn parses the form that starts at an offset from "spawn" on.
func (p *parser) spawn(at int, bind api.Node) api.Node {
	n := api.Node{Kind: KSSpawn, At: at}
	p.take("spawn")
	n.Text = p.upper()
	n.Kids = append([]api.Node{bind}, p.exprs()...)
	if p.skip("on") {
		n.N = 1
		n.Kids = append(n.Kids, p.expr())
	}
	return n
}

func (p *parser) ifStmt() api.Node {
	n := p.begin(KSIf)
	p.take("if")
	n.Kids = []api.Node{p.head(), p.block()}
	if p.skip("else") {
		n.Kids = append(n.Kids, p.block())
	}
	return n
}

func (p *parser) matchStmt() api.Node {
	n := p.begin(KSMatch)
	p.take("match")
	n.Kids = []api.Node{p.head()}
	p.take("{")
	n.Kids = append(n.Kids, p.stmtArm())
	n.Kids = append(n.Kids, p.rows(p.stmtArm)...)
	return n
}

func (p *parser) stmtArm() api.Node {
	n := p.pattern(KSArm)
	n.Kids = append(n.Kids, p.block())
	return n
}

func (p *parser) forStmt() api.Node {
	n := p.begin(KSFor)
	p.take("for")
	n.Text = p.lower()
	p.take("in")
	n.Kids = []api.Node{p.head(), p.block()}
	return n
}

func (p *parser) send() api.Node {
	n := p.begin(KSSend)
	p.take("send")
	n.Kids = []api.Node{p.expr()}
	n.Text = p.upper()
	n.Kids = append(n.Kids, p.exprs()...)
	return n
}

func (p *parser) after() api.Node {
	n := p.begin(KSAfter)
	p.take("after")
	n.Kids = []api.Node{p.expr(), p.send()}
	return n
}

func (p *parser) do() api.Node {
	n := p.begin(KSDo)
	p.take("do")
	n.Text = p.lower()
	n.Kids = p.exprs()
	p.take("then")
	reply := p.begin(KMsg)
	reply.Text = p.upper()
	n.Kids = append(n.Kids, reply)
	return n
}

func (p *parser) stop() api.Node {
	n := p.begin(KSStop)
	p.take("stop")
	return n
}

func (p *parser) fail() api.Node {
	n := p.begin(KSFail)
	p.take("fail")
	n.Kids = []api.Node{p.expr()}
	return n
}

// assignment parses a name, "=" and an expression as a node of a kind.
func (p *parser) assignment(kind int) api.Node {
	n := p.begin(kind)
	n.Text = p.lower()
	p.take("=")
	n.Kids = []api.Node{p.expr()}
	return n
}

// pattern parses a pattern as an arm of a kind, whose body is missing.
func (p *parser) pattern(kind int) api.Node {
	n := p.begin(kind)
	if p.skip("_") {
		n.Text = "_"
		return n
	}
	n.Text = p.upper()
	if p.word() == "(" {
		n.Kids = p.some("(", p.bind, ")")
	}
	return n
}

func (p *parser) bind() api.Node {
	n := p.begin(KBind)
	if p.skip("_") {
		n.Text = "_"
		return n
	}
	n.Text = p.lower()
	return n
}
