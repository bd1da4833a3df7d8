package comp_test

import (
	"fmt"
	"slices"
	"strconv"
	"strings"

	"retroact/api"
)

// The tests write expressions as an operator, N, a slash and M, S in quotes, and the Kids in parentheses, of which all but the operator may be missing: `local1`, `rec'P'(int1 list)`, `match(local4 arm0/9(local9) arm-1(int3))`. Statements are written alike, with T in quotes behind S, and lists in braces: `if(bool1)then{stop}else{set0(int1)}`, `do'pay''Ok'(int1 text'a')`, `match(local4)arms{arm-1/9then{stop}}`.

func exprNames() []string {
	return []string{
		api.XUnit: "unit", api.XBool: "bool", api.XInt: "int", api.XText: "text", api.XLocal: "local", api.XState: "state", api.XSelf: "self",
		api.XList: "list", api.XRec: "rec", api.XGet: "get", api.XWith: "with", api.XCtor: "ctor", api.XMatch: "match", api.XArm: "arm",
		api.XIf: "if", api.XAnd: "and", api.XOr: "or", api.XNot: "not", api.XNeg: "neg", api.XAdd: "add", api.XSub: "minus", api.XMul: "mul",
		api.XDiv: "div", api.XMod: "mod", api.XCat: "cat", api.XEq: "eq", api.XNe: "ne", api.XLt: "lt", api.XLe: "le", api.XGt: "gt", api.XGe: "ge",
		api.XLet: "let", api.XCall: "call", api.XFun: "fun", api.XApply: "apply", api.XPrim: "prim",
	}
}

func stmtNames() []string {
	return []string{
		api.SLet: "let", api.SSet: "set", api.SIf: "if", api.SMatch: "match", api.SArm: "arm", api.SFor: "for", api.SSend: "send",
		api.SAfter: "after", api.SSpawn: "spawn", api.SDo: "do", api.SStop: "stop", api.SFail: "fail",
	}
}

// notation is what is left to be read.
type notation struct{ rest string }

func expr(s string) api.Expr {
	l := exprs(s)
	if len(l) != 1 {
		panic("not one expression: " + s)
	}
	return l[0]
}

func exprs(s string) []api.Expr {
	n := &notation{s}
	l := n.exprs()
	n.end()
	return l
}

func block(s string) []api.Stmt {
	n := &notation{s}
	l := n.block()
	n.end()
	return l
}

func (n *notation) end() {
	if n.rest != "" {
		panic("not read: " + n.rest)
	}
}

// skip reads a mark if it is there.
func (n *notation) skip(mark string) bool {
	rest, found := strings.CutPrefix(n.rest, mark)
	n.rest = rest
	return found
}

func (n *notation) expect(mark string) {
	if !n.skip(mark) {
		panic("no " + mark + " before " + n.rest)
	}
}

// take reads all bytes of a set.
func (n *notation) take(set string) string {
	size := len(n.rest) - len(strings.TrimLeft(n.rest, set))
	s := n.rest[:size]
	n.rest = n.rest[size:]
	return s
}

func (n *notation) op(names []string) int {
	word := n.take("abcdefghijklmnopqrstuvwxyz")
	op := slices.Index(names, word)
	if word == "" || op < 0 {
		panic(fmt.Sprint("no operator: ", word, " before ", n.rest))
	}
	return op
}

func (n *notation) number() int {
	digits := n.take("-0123456789")
	if digits == "" {
		return 0
	}
	k, err := strconv.Atoi(digits)
	if err != nil {
		panic(err)
	}
	return k
}

func (n *notation) slashed() int {
	if !n.skip("/") {
		return 0
	}
	return n.number()
}

func (n *notation) quoted() string {
	if !n.skip("'") {
		return ""
	}
	s, rest, _ := strings.Cut(n.rest, "'")
	n.rest = rest
	return s
}

func (n *notation) exprs() []api.Expr {
	var l []api.Expr
	for n.rest != "" && n.rest[0] != ')' {
		l = append(l, n.expr())
		n.skip(" ")
	}
	return l
}

func (n *notation) kids() []api.Expr {
	if !n.skip("(") {
		return nil
	}
	l := n.exprs()
	n.expect(")")
	return l
}

func (n *notation) expr() api.Expr {
	return api.Expr{Op: n.op(exprNames()), N: n.number(), M: n.slashed(), S: n.quoted(), Kids: n.kids()}
}

func (n *notation) block() []api.Stmt {
	var l []api.Stmt
	for n.rest != "" && n.rest[0] != '}' {
		l = append(l, n.stmt())
		n.skip(" ")
	}
	return l
}

func (n *notation) list(name string) []api.Stmt {
	if !n.skip(name + "{") {
		return nil
	}
	l := n.block()
	n.expect("}")
	return l
}

func (n *notation) stmt() api.Stmt {
	x := api.Stmt{Op: n.op(stmtNames()), N: n.number(), M: n.slashed(), S: n.quoted(), T: n.quoted(), Xs: n.kids()}
	x.Then, x.Else, x.Arms = n.list("then"), n.list("else"), n.list("arms")
	return x
}
