package check_test

import (
	"slices"

	"retroact/api"
	"retroact/syntax"
	"retroact/types"
)

// modelled is what the model makes of a patch file, which may be a program, without errors of lower layers.
func modelled(tree api.Node) outcome {
	p, _, _ := types.Decls(tree)
	root := grow(tree, nil)
	m := &model{p, map[*node]api.Type{}, map[*node][]api.Field{}, map[*node]int{}}
	if p := m.firstProblem(root); p != nil {
		return outcome{e: p.e, at: p.at}
	}
	return outcome{Patch: m.patch(root)}
}

func (m *model) firstProblem(root *node) *problem {
	isChange := func(n *node) bool { return n.Kind >= syntax.KConvType }
	changes := slices.DeleteFunc(slices.Clone(root.kids), func(n *node) bool { return !isChange(n) })
	return first(
		each(root.kids, func(_ int, n *node) *problem { return m.declProblem(n) }),
		each(changes, func(k int, n *node) *problem { return m.changeProblem(changes[:k], n) }),
	)
}

// functions lists the bodies of the functions in the order of their numbers: those of functions and lambdas, the expression of a type's converter, and each value of another converter.
func (m *model) functions(root *node) []*node {
	var l []*node
	for _, n := range root.of(syntax.KFun) {
		l = append(l, n.last())
	}
	lambdas := func(n *node) {
		for _, x := range n.all(true) {
			if x.Kind == syntax.KLambda {
				m.numbers[x] = len(l)
				l = append(l, x.last())
			}
		}
	}
	for _, n := range root.of(syntax.KFun, syntax.KActor) {
		lambdas(n)
	}
	for _, n := range root.of(syntax.KConvType, syntax.KConvActor, syntax.KConvMsg) {
		for _, value := range m.values(n) {
			m.numbers[value] = len(l)
			l = append(l, value)
			lambdas(value)
		}
	}
	return l
}

// values returns those of a converter that become functions.
func (m *model) values(n *node) []*node {
	switch n.Kind {
	case syntax.KConvActor:
		var l []*node
		for _, set := range inOrder(n.of(syntax.KSet), m.vars(n.Text)) {
			l = append(l, set.kids[0])
		}
		return l
	case syntax.KConvMsg:
		return n.last().kids
	}
	return n.kids[len(n.kids)-1:]
}

func (m *model) patch(root *node) api.Patch {
	bodies := m.functions(root)
	out := api.Patch{Prog: m.p}
	out.Prog.Funs = nil
	for k, body := range bodies {
		f := body.function()
		var params []api.Field
		if f.Kind == syntax.KLambda {
			params = slices.Clone(m.captured(f))
		}
		for _, x := range f.of(syntax.KField) {
			params = append(params, api.Field{Name: x.Text, Type: read(x.kids[0])})
		}
		result := m.result(f, body)
		fun := api.Fun{Params: params, Result: result, Slots: m.slots(f, body), Body: m.core(body)}
		if k < len(m.p.Funs) {
			fun.Name = m.p.Funs[k].Name
		}
		out.Prog.Funs = append(out.Prog.Funs, fun)
	}
	out.Prog.Actors = slices.Clone(m.p.Actors)
	for k, n := range root.of(syntax.KActor) {
		out.Prog.Actors[k] = m.actor(out.Prog.Actors[k], n)
	}
	for _, n := range root.kids {
		m.change(&out, n)
	}
	return out
}

// result returns the result type of the function whose body is one of those of a node.
func (m *model) result(f, body *node) api.Type {
	switch f.Kind {
	case syntax.KConvType:
		return m.typeOf(body)
	case syntax.KConvActor:
		vars := m.vars(f.Text)
		return vars[fieldIndex(vars, body.up.Text)].Type
	case syntax.KConvMsg:
		params, _ := m.params(f.Text, f.last().Text)
		return params[slices.Index(f.last().kids, body)].Type
	}
	return read(f.kids[len(f.kids)-2])
}

func (m *model) actor(a api.Actor, n *node) api.Actor {
	a.Vars, a.On = slices.Clone(a.Vars), slices.Clone(a.On)
	var inits []*node
	for k, x := range n.of(syntax.KState) {
		a.Vars[k].Init = m.core(x.last())
		inits = append(inits, x.last())
	}
	a.Slots = m.slots(n, inits...)
	for k, x := range n.of(syntax.KOn) {
		a.On[k].Slots = m.slots(x, x.last())
		a.On[k].Body = m.block(x.last())
	}
	return a
}

func (m *model) change(out *api.Patch, n *node) {
	x := api.Conv{Kind: n.Kind - syntax.KConvType + api.CvType, Name: n.Text}
	switch n.Kind {
	case syntax.KConvType:
		x.Sub = n.Text
		if n.N == 1 {
			x.Sub = n.kids[0].Text
		}
	case syntax.KConvActor:
	case syntax.KConvMsg:
		x.Sub, x.To = n.kids[0].Text, n.last().Text
	case syntax.KMove:
		out.Moves = append(out.Moves, api.Move{Actor: n.Text, Node: n.N})
		return
	case syntax.KDrop:
		out.Drops = append(out.Drops, n.Text)
		return
	default:
		return
	}
	for _, value := range m.values(n) {
		x.Funs = append(x.Funs, m.numbers[value])
	}
	out.Convs = append(out.Convs, x)
}

func (m *model) cores(l []*node) []api.Expr {
	var all []api.Expr
	for _, n := range l {
		all = append(all, m.core(n))
	}
	return all
}

// core translates an expression without errors.
func (m *model) core(n *node) api.Expr {
	x := api.Expr{Kids: m.cores(n.kids)}
	switch n.Kind {
	case syntax.KInt:
		return api.Expr{Op: api.XInt, N: n.N}
	case syntax.KText:
		return api.Expr{Op: api.XText, S: n.Text}
	case syntax.KBool:
		return api.Expr{Op: api.XBool, N: n.N}
	case syntax.KName, syntax.KSelf:
		return m.denoted(n, n.name())
	case syntax.KList:
		x.Op = api.XList
	case syntax.KNew:
		fields, _ := m.fields(m.typeOf(n))
		all := x.Kids
		x = api.Expr{Op: api.XRec, S: n.Text}
		for _, set := range inOrder(n.kids, fields) {
			x.Kids = append(x.Kids, all[slices.Index(n.kids, set)])
		}
	case syntax.KSet:
		return m.core(n.kids[0])
	case syntax.KCons:
		x.Op = api.XCtor
		x.S, x.N, _ = types.Ctor(m.p, n.Text)
	case syntax.KGet:
		fields, _ := m.fields(m.typeOf(n.kids[0]))
		x.Op, x.N = api.XGet, fieldIndex(fields, n.Text)
	case syntax.KWith:
		fields, _ := m.fields(m.typeOf(n.kids[0]))
		all := x.Kids
		x = all[0]
		for k, set := range n.kids[1:] {
			x = api.Expr{Op: api.XWith, N: fieldIndex(fields, set.Text), Kids: []api.Expr{x, all[k+1]}}
		}
	case syntax.KCall:
		return m.call(n, x.Kids)
	case syntax.KNeg:
		x.Op = api.XNeg
	case syntax.KNot:
		x.Op = api.XNot
	case syntax.KBin:
		x.Op = map[string]int{"+": api.XAdd, "-": api.XSub, "*": api.XMul, "/": api.XDiv, "%": api.XMod, "and": api.XAnd, "or": api.XOr, "++": api.XCat, "==": api.XEq, "!=": api.XNe, "<": api.XLt, "<=": api.XLe, ">": api.XGt, ">=": api.XGe}[n.Text]
	case syntax.KIf:
		x.Op = api.XIf
	case syntax.KLet:
		x.Op, x.N = api.XLet, m.locals(n)
	case syntax.KMatch:
		x.Op = api.XMatch
	case syntax.KArm:
		x = api.Expr{Op: api.XArm, M: m.locals(n), N: m.armIndex(n), Kids: x.Kids[len(x.Kids)-1:]}
	case syntax.KLambda:
		x = api.Expr{Op: api.XFun, N: m.numbers[n]}
		for _, f := range m.captured(n) {
			x.Kids = append(x.Kids, m.denoted(n, f.Name))
		}
	case syntax.KBind, syntax.KField, syntax.KTypeName, syntax.KTypeRef, syntax.KTypeList, syntax.KTypeFun:
		return api.Expr{}
	default:
		x.Op = api.XUnit
	}
	return x
}

func (m *model) armIndex(n *node) int {
	if n.Text == "_" {
		return -1
	}
	_, k, _ := types.Ctor(m.p, n.Text)
	return k
}

func (m *model) call(n *node, kids []api.Expr) api.Expr {
	callee := n.kids[0]
	if callee.Kind == syntax.KName {
		switch m.sort(callee) {
		case "function":
			return api.Expr{Op: api.XCall, N: m.functionOf(callee.Text), Kids: kids[1:]}
		case "primitive":
			return api.Expr{Op: api.XPrim, N: primitiveOf(callee.Text), Kids: kids[1:]}
		}
	}
	return api.Expr{Op: api.XApply, Kids: kids}
}

// denoted returns what a name, or self, denotes at a node.
func (m *model) denoted(n *node, name string) api.Expr {
	function := n.function()
	captured := -1
	if function.Kind == syntax.KLambda {
		captured = fieldIndex(m.captured(function), name)
	}
	switch m.sortOf(n, name) {
	case "local":
		k, b := m.binder(n, name)
		if b.owner.within(function) {
			return api.Expr{Op: api.XLocal, N: m.locals(n) - 1 - k}
		}
		return api.Expr{Op: api.XLocal, N: captured}
	case "state":
		if captured < 0 {
			return api.Expr{Op: api.XState, N: fieldIndex(m.states(n), name)}
		}
		return api.Expr{Op: api.XLocal, N: captured}
	case "self":
		if captured < 0 {
			return api.Expr{Op: api.XSelf}
		}
		return api.Expr{Op: api.XLocal, N: captured}
	case "function":
		return api.Expr{Op: api.XFun, N: m.functionOf(name)}
	}
	return api.Expr{}
}

func (m *model) block(n *node) []api.Stmt {
	var l []api.Stmt
	for _, x := range n.kids {
		l = append(l, m.stmt(x))
	}
	return l
}

// stmt translates a statement, or an arm of one, without errors.
func (m *model) stmt(n *node) api.Stmt {
	k := n.kids
	switch n.Kind {
	case syntax.KSLet:
		return api.Stmt{Op: api.SLet, N: m.locals(n), Xs: m.cores(k)}
	case syntax.KSSet:
		return api.Stmt{Op: api.SSet, N: fieldIndex(m.states(n), n.Text), Xs: m.cores(k)}
	case syntax.KSIf:
		x := api.Stmt{Op: api.SIf, Xs: m.cores(k[:1]), Then: m.block(k[1])}
		if len(k) == 3 {
			x.Else = m.block(k[2])
		}
		return x
	case syntax.KSMatch:
		return api.Stmt{Op: api.SMatch, Xs: m.cores(k[:1]), Arms: m.block(&node{kids: k[1:]})}
	case syntax.KSArm:
		return api.Stmt{Op: api.SArm, N: m.armIndex(n), M: m.locals(n), Then: m.block(n.last())}
	case syntax.KSFor:
		return api.Stmt{Op: api.SFor, N: m.locals(n), Xs: m.cores(k[:1]), Then: m.block(k[1])}
	case syntax.KSSend:
		return api.Stmt{Op: api.SSend, S: n.Text, Xs: m.cores(k)}
	case syntax.KSAfter:
		return api.Stmt{Op: api.SAfter, S: k[1].Text, Xs: append(m.cores(k[:1]), m.cores(k[1].kids)...)}
	case syntax.KSSpawn:
		x := api.Stmt{Op: api.SSpawn, N: -1, M: n.N, S: n.Text, Xs: append(m.cores(k[len(k)-n.N:]), m.cores(k[1:len(k)-n.N])...)}
		if k[0].Text != "_" {
			x.N = m.locals(n)
		}
		return x
	case syntax.KSDo:
		return api.Stmt{Op: api.SDo, S: n.Text, T: n.last().Text, Xs: m.cores(k[:len(k)-1])}
	case syntax.KSFail:
		return api.Stmt{Op: api.SFail, Xs: m.cores(k)}
	}
	return api.Stmt{Op: api.SStop}
}
