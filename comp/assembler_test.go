package comp_test

import (
	"fmt"
	"slices"
	"strings"
	"testing"

	"retroact/api"
	"retroact/comp"
)

// The tests write instructions as a word, A, a slash and B, of which the numbers may be missing: `local0 const(int1) make/1(list) ask/2'pay' false7`. Targets are counted from the first instruction of the entry. A constant is an expression in parentheses and a name is in quotes; their indices follow from the order of first use.

func insNames() []string {
	return []string{
		comp.IConst: "const", comp.ILocal: "local", comp.IStore: "store", comp.IState: "state", comp.ISet: "set", comp.ISelf: "self", comp.IMake: "make", comp.IGet: "get", comp.IWith: "with", comp.ICase: "case",
		comp.IBind: "bind", comp.IPop: "pop", comp.IUnary: "unary", comp.IBinary: "binary", comp.IPrim: "prim", comp.IJump: "jump", comp.IFalse: "false", comp.ITrue: "true", comp.ICall: "call", comp.IApply: "apply",
		comp.IReturn: "return", comp.INext: "next", comp.ISend: "send", comp.IAfter: "after", comp.ISpawn: "spawn", comp.IAsk: "ask", comp.IStop: "stop", comp.IFail: "fail", comp.IInit: "init", comp.IEnd: "end",
	}
}

// assembler makes code by hand.
type assembler struct{ api.Code }

func (c *assembler) fun(params, slots int, s string) *assembler {
	c.Funs = append(c.Funs, api.Entry{At: len(c.Ins), Params: params, Slots: slots})
	c.assemble(s)
	return c
}

func (c *assembler) on(actor, msg string, params, slots int, s string) *assembler {
	c.Ons = append(c.Ons, api.Entry{Actor: actor, Msg: msg, At: len(c.Ins), Params: params, Slots: slots})
	c.assemble(s)
	return c
}

func (c *assembler) assemble(s string) {
	at := len(c.Ins)
	n := &notation{strings.TrimSpace(s)}
	for n.rest != "" {
		c.Ins = append(c.Ins, c.ins(n, at))
		n.skip(" ")
	}
}

func (c *assembler) ins(n *notation, at int) api.Ins {
	i := api.Ins{Op: n.op(insNames()), A: n.number(), B: n.slashed()}
	switch i.Op {
	case comp.IJump, comp.IFalse, comp.ITrue, comp.INext:
		i.A += at
	case comp.ICase:
		i.B += at
	}
	if name := n.quoted(); name != "" {
		i.A = c.name(name)
	}
	for _, x := range n.kids() {
		i.A = c.constant(constantOf(x))
	}
	return i
}

func (c *assembler) name(s string) int {
	if k := slices.Index(c.Names, s); k >= 0 {
		return k
	}
	c.Names = append(c.Names, s)
	return len(c.Names) - 1
}

func (c *assembler) constant(v api.Value) int {
	if k := slices.IndexFunc(c.Consts, func(w api.Value) bool { return v.Kind == w.Kind && v.T == w.T && v.N == w.N && v.S == w.S }); k >= 0 {
		return k
	}
	c.Consts = append(c.Consts, v)
	return len(c.Consts) - 1
}

// constantOf returns the value of an expression of one of the kinds for which there are constants.
func constantOf(x api.Expr) api.Value {
	switch x.Op {
	case api.XText:
		return api.Value{Kind: api.VText, S: x.S}
	default:
		return api.Value{Kind: []int{api.XUnit: api.VUnit, api.XBool: api.VBool, api.XInt: api.VInt, api.XList: api.VList, api.XRec: api.VRec, api.XCtor: api.VVar, api.XFun: api.VFun}[x.Op], T: x.S, N: x.N}
	}
}

// listing shows code with its instructions as the tests write them, but with absolute targets.
func listing(c api.Code) string {
	var l []string
	for k, i := range c.Ins {
		word := fmt.Sprint("op ", i.Op, " ")
		if i.Op > 0 && i.Op < len(insNames()) {
			word = insNames()[i.Op]
		}
		l = append(l, fmt.Sprint(k, ":", word, i.A, "/", i.B))
	}
	return shortened(strings.Join(l, " ")) + shortened(c.Consts) + shortened(c.Names) + shortened(c.Funs) + shortened(c.Ons)
}

// first returns the code of the first entries, which have some numbers of instructions, constants and names.
func first(c api.Code, ins, consts, names int) api.Code {
	return api.Code{Ins: c.Ins[:min(ins, len(c.Ins))], Consts: c.Consts[:min(consts, len(c.Consts))], Names: c.Names[:min(names, len(c.Names))]}
}

// begins checks that code begins with the entries of another one.
func begins(t *testing.T, got, want api.Code, message string) {
	t.Helper()
	end := len(got.Ins)
	if all := slices.Concat(got.Funs, got.Ons); len(all) > len(want.Funs)+len(want.Ons) {
		end = all[len(want.Funs)+len(want.Ons)].At
	}
	part := first(got, end, len(want.Consts), len(want.Names))
	if printed(part) != printed(first(want, len(want.Ins), len(want.Consts), len(want.Names))) {
		t.Errorf("%s: %s; want %s", message, listing(part), listing(want))
	}
}
