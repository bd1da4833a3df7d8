package syntax

import "retroact/api"

// part writes a declaration or a change.
func (w *writer) part(n api.Node) {
	f := w.open(n)
	switch n.Kind {
	case KRecord:
		f.name("record")
		f.upper()
		f.list("{", f.rest(), f.field, "}")
	case KVariant:
		f.name("variant")
		f.upper()
		f.some("{", f.rest(), f.ctor, "}")
	case KEffect:
		f.name("effect")
		f.lower()
		f.signature()
	case KFun:
		f.name("fun")
		f.lower()
		f.function()
	case KActor:
		f.actor()
	default:
		f.change(n.Kind)
	}
	f.end()
}

func (w *writer) ctor(n api.Node) {
	f := w.begin(n, KCtor)
	f.upper()
	f.optional("(", f.rest(), f.typ, ")")
	f.end()
}

func (f *form) actor() {
	f.name("actor")
	f.upper()
	f.fields()
	f.policy()
	f.mark("{")
	for _, n := range f.rest() {
		f.member(n)
	}
	f.mark("}")
}

func (f *form) policy() {
	switch n := f.number(); n {
	case 0:
	case -1:
		f.name("escalate")
	default:
		f.name("restart")
		f.integer(n - 1)
	}
}

func (w *writer) member(n api.Node) {
	f := w.open(n)
	switch n.Kind {
	case KState:
		f.name("state")
		f.lower()
		f.mark(":")
		f.typ(f.kid())
		f.mark("=")
		f.expr(f.kid())
	case KOn:
		f.name("on")
		f.upper()
		f.fields()
		f.block(f.kid())
	default:
		panic(misfit{})
	}
	f.end()
}

// function writes what stands behind the name of a function.
func (f *form) function() {
	f.signature()
	f.mark("=")
	f.expr(f.kid())
}

// signature writes parameters and the type of a result.
func (f *form) signature() {
	f.fields()
	f.mark(":")
	f.typ(f.kid())
}

func (f *form) fields() { f.list("(", f.front(KField), f.field, ")") }

func (w *writer) field(n api.Node) {
	f := w.begin(n, KField)
	f.lower()
	f.mark(":")
	f.typ(f.kid())
	f.end()
}

func (w *writer) typ(n api.Node) {
	f := w.open(n)
	switch n.Kind {
	case KTypeName:
		f.textAs(isTypeName)
	case KTypeList:
		f.mark("[")
		f.typ(f.kid())
		f.mark("]")
	case KTypeRef:
		f.name("ref")
		f.upper()
	case KTypeFun:
		f.name("fun")
		f.list("(", f.allBut(1), f.typ, ")")
		f.mark(":")
		f.typ(f.kid())
	default:
		panic(misfit{})
	}
	f.end()
}

func (f *form) change(kind int) {
	switch kind {
	case KConvType:
		f.convertType()
	case KConvActor:
		f.name("convert")
		f.name("actor")
		f.upper()
		f.fields()
		f.list("{", f.rest(), f.set, "}")
	case KConvMsg:
		f.convertMessage()
	case KMove:
		f.name("move")
		f.upper()
		f.name("to")
		f.integer(f.number())
	case KDrop:
		f.name("drop")
		f.upper()
	default:
		panic(misfit{})
	}
}

func (f *form) convertType() {
	f.name("convert")
	f.name("type")
	f.upper()
	switch f.number() {
	case 0:
	case 1:
		f.mark(".")
		ctor := f.begin(f.kid(), KName)
		ctor.upper()
		ctor.end()
	default:
		panic(misfit{})
	}
	f.fields()
	f.mark("=")
	f.expr(f.kid())
}

func (f *form) convertMessage() {
	f.name("convert")
	f.name("message")
	f.upper()
	f.mark(".")
	from := f.begin(f.kid(), KName)
	from.textAs(isMessage)
	from.end()
	f.fields()
	f.mark("=")
	to := f.begin(f.kid(), KMsg)
	to.textAs(isMessage)
	to.list("(", to.rest(), to.expr, ")")
	to.end()
}
