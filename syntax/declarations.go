package syntax

import "retroact/api"

// part parses a declaration or a change.
func (p *parser) part() api.Node {
	switch p.word() {
	case "convert":
		return p.convert()
	case "move":
		return p.move()
	case "drop":
		return p.drop()
	}
	return p.decl()
}

func (p *parser) decl() api.Node {
	switch p.word() {
	case "record":
		return p.record()
	case "variant":
		return p.variant()
	case "effect":
		return p.effect()
	case "fun":
		return p.fun()
	case "actor":
		return p.actor()
	}
	panic(misfit{})
}

func (p *parser) record() api.Node {
	n := p.begin(KRecord)
	p.take("record")
	n.Text = p.upper()
	n.Kids = p.list("{", p.field, "}")
	return n
}

func (p *parser) variant() api.Node {
	n := p.begin(KVariant)
	p.take("variant")
	n.Text = p.upper()
	n.Kids = p.some("{", p.ctor, "}")
	return n
}

func (p *parser) ctor() api.Node {
	n := p.begin(KCtor)
	n.Text = p.upper()
	if p.word() == "(" {
		n.Kids = p.some("(", p.typ, ")")
	}
	return n
}

func (p *parser) effect() api.Node {
	n := p.begin(KEffect)
	p.take("effect")
	n.Text = p.lower()
	n.Kids = p.signature()
	return n
}

func (p *parser) fun() api.Node {
	n := p.begin(KFun)
	p.take("fun")
	n.Text = p.lower()
	n.Kids = p.signature()
	p.take("=")
	n.Kids = append(n.Kids, p.expr())
	return n
}

func (p *parser) actor() api.Node {
	n := p.begin(KActor)
	p.take("actor")
	n.Text = p.upper()
	n.Kids = p.fields()
	n.N = p.policy()
	p.take("{")
	n.Kids = append(n.Kids, p.rows(p.member)...)
	return n
}

func (p *parser) policy() int {
	switch {
	case p.skip("escalate"):
		return -1
	case p.skip("restart"):
		return p.integer() + 1
	}
	return 0
}

func (p *parser) member() api.Node {
	if p.word() == "state" {
		return p.state()
	}
	return p.handler()
}

func (p *parser) state() api.Node {
	n := p.begin(KState)
	p.take("state")
	n.Text = p.lower()
	p.take(":")
	n.Kids = []api.Node{p.typ()}
	p.take("=")
	n.Kids = append(n.Kids, p.expr())
	return n
}

func (p *parser) handler() api.Node {
	n := p.begin(KOn)
	p.take("on")
	n.Text = p.upper()
	n.Kids = append(p.fields(), p.block())
	return n
}

// signature takes parameters and the type of a result.
func (p *parser) signature() []api.Node {
	l := p.fields()
	p.take(":")
	return append(l, p.typ())
}

func (p *parser) fields() []api.Node { return p.list("(", p.field, ")") }

func (p *parser) field() api.Node {
	n := p.begin(KField)
	n.Text = p.lower()
	p.take(":")
	n.Kids = []api.Node{p.typ()}
	return n
}

func (p *parser) typ() api.Node {
	switch p.word() {
	case "[":
		return p.listType()
	case "ref":
		return p.refType()
	case "fun":
		return p.funType()
	}
	n := p.begin(KTypeName)
	n.Text = p.name(isTypeName)
	return n
}

func isTypeName(word string) bool { return isBasicType(word) || isUpper(word) }

func (p *parser) listType() api.Node {
	n := p.begin(KTypeList)
	p.take("[")
	n.Kids = []api.Node{p.typ()}
	p.take("]")
	return n
}

func (p *parser) refType() api.Node {
	n := p.begin(KTypeRef)
	p.take("ref")
	n.Text = p.upper()
	return n
}

func (p *parser) funType() api.Node {
	n := p.begin(KTypeFun)
	p.take("fun")
	n.Kids = p.list("(", p.typ, ")")
	p.take(":")
	n.Kids = append(n.Kids, p.typ())
	return n
}

func (p *parser) convert() api.Node {
	at := p.offset()
	p.take("convert")
	var n api.Node
	switch p.word() {
	case "type":
		n = p.convertType()
	case "actor":
		n = p.convertActor()
	default:
		n = p.convertMessage()
	}
	n.At = at
	return n
}

func (p *parser) convertType() api.Node {
	n := api.Node{Kind: KConvType}
	p.take("type")
	n.Text = p.upper()
	if p.skip(".") {
		n.N = 1
		ctor := p.begin(KName)
		ctor.Text = p.upper()
		n.Kids = []api.Node{ctor}
	}
	n.Kids = append(n.Kids, p.fields()...)
	p.take("=")
	n.Kids = append(n.Kids, p.expr())
	return n
}

func (p *parser) convertActor() api.Node {
	n := api.Node{Kind: KConvActor}
	p.take("actor")
	n.Text = p.upper()
	n.Kids = p.fields()
	n.Kids = append(n.Kids, p.list("{", p.set, "}")...)
	return n
}

func (p *parser) convertMessage() api.Node {
	n := api.Node{Kind: KConvMsg}
	p.take("message")
	n.Text = p.upper()
	p.take(".")
	n.Kids = []api.Node{p.message(KName)}
	n.Kids = append(n.Kids, p.fields()...)
	p.take("=")
	to := p.message(KMsg)
	to.Kids = p.exprs()
	n.Kids = append(n.Kids, to)
	return n
}

// message takes the name of a message as a node of a kind.
func (p *parser) message(kind int) api.Node {
	n := p.begin(kind)
	n.Text = p.name(isMessage)
	return n
}

func isMessage(word string) bool { return word == "init" || isUpper(word) }

func (p *parser) move() api.Node {
	n := p.begin(KMove)
	p.take("move")
	n.Text = p.upper()
	p.take("to")
	n.N = p.integer()
	return n
}

func (p *parser) drop() api.Node {
	n := p.begin(KDrop)
	p.take("drop")
	n.Text = p.upper()
	return n
}
