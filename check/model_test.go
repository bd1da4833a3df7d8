package check_test

import (
	"slices"
	"strings"

	"retroact/api"
	"retroact/syntax"
	"retroact/types"
)

// The plain model of layer 10 has no scopes that it carries along: it looks for the binding of a name on the way from the name to the root. It finds the first error, the types and the translation in three separate walks.

// node is a node of a tree with the node above it.
type node struct {
	api.Node
	up   *node
	kids []*node
}

func grow(n api.Node, up *node) *node {
	x := &node{Node: n, up: up}
	for _, kid := range n.Kids {
		x.kids = append(x.kids, grow(kid, x))
	}
	return x
}

func (n *node) last() *node { return n.kids[len(n.kids)-1] }

func (n *node) of(kinds ...int) []*node {
	var l []*node
	for _, kid := range n.kids {
		if slices.Contains(kinds, kid.Kind) {
			l = append(l, kid)
		}
	}
	return l
}

// within reports whether a node is another one or below it.
func (n *node) within(other *node) bool {
	for ; n != nil; n = n.up {
		if n == other {
			return true
		}
	}
	return false
}

// all lists a node and those below it in pre-order, without the bodies of lambdas below it if these are not wanted.
func (n *node) all(withLambdas bool) []*node {
	l := []*node{n}
	for _, kid := range n.kids {
		if n.Kind == syntax.KLambda && !withLambdas {
			break
		}
		l = append(l, kid.all(withLambdas)...)
	}
	return l
}

// isFunction reports whether the code in a node has slots of its own.
func (n *node) isFunction() bool {
	return slices.Contains([]int{syntax.KLambda, syntax.KFun, syntax.KOn, syntax.KActor, syntax.KConvType, syntax.KConvActor, syntax.KConvMsg}, n.Kind)
}

// function returns the innermost function around a node, which is not the node itself.
func (n *node) function() *node {
	n = n.up
	for !n.isFunction() {
		n = n.up
	}
	return n
}

// actorAround returns the actor in whose code a node is, if there is one.
func (n *node) actorAround() *node {
	for n != nil && n.Kind != syntax.KActor {
		n = n.up
	}
	return n
}

// binding is a local binding, made by a part of its owner.
type binding struct {
	name  string
	owner *node
	t     api.Type
}

type model struct {
	p api.Prog
	// types are those of expressions that have been inferred.
	types map[*node]api.Type
	// captures are those of lambdas.
	captures map[*node][]api.Field
	// numbers are those of the functions that lambdas become.
	numbers map[*node]int
}

// visible lists the local bindings that names in a node can denote, the innermost first, also those outside of lambdas.
func (m *model) visible(n *node) []binding {
	var l []binding
	for up := n.up; up != nil; n, up = up, up.up {
		isLast := n == up.last()
		switch {
		case up.Kind == syntax.KLet && isLast:
			l = append(l, binding{up.Text, up, m.typeOf(up.kids[0])})
		case up.Kind == syntax.KSFor && isLast:
			l = append(l, binding{up.Text, up, m.typeOf(up.kids[0]).Args[0]})
		case (up.Kind == syntax.KArm || up.Kind == syntax.KSArm) && isLast:
			binds := up.of(syntax.KBind)
			for k, b := range slices.Backward(binds) {
				_, ctor, _ := types.Ctor(m.p, up.Text)
				fields := m.ctors(m.typeOf(up.up.kids[0]))[ctor].Fields
				l = append(l, binding{b.Text, up, fields[k].Type})
			}
		case up.Kind == syntax.KBlock:
			for _, x := range slices.Backward(up.kids[:slices.Index(up.kids, n)]) {
				if x.Kind == syntax.KSLet {
					l = append(l, binding{x.Text, x, m.typeOf(x.kids[0])})
				}
				if x.Kind == syntax.KSSpawn && x.kids[0].Text != "_" {
					l = append(l, binding{x.kids[0].Text, x, api.Type{Kind: api.TyRef, Name: x.Text}})
				}
			}
		case up.isFunction() && n.Kind != syntax.KOn:
			for _, f := range slices.Backward(up.of(syntax.KField)) {
				l = append(l, binding{f.Text, up, read(f.kids[0])})
			}
		}
		if up.isFunction() && up.Kind != syntax.KLambda {
			break
		}
	}
	return l
}

func read(n *node) api.Type {
	t, _ := types.Read(n.Node)
	return t
}

func (m *model) ctors(t api.Type) []api.Ctor {
	k, ok := types.Find(m.p, t.Name)
	if t.Kind != api.TyNamed || !ok || m.p.Types[k].Record {
		return nil
	}
	return m.p.Types[k].Ctors
}

func (m *model) fields(t api.Type) (l []api.Field, ok bool) {
	k, ok := types.Find(m.p, t.Name)
	if t.Kind != api.TyNamed || !ok || !m.p.Types[k].Record {
		return nil, false
	}
	return m.p.Types[k].Ctors[0].Fields, true
}

func fieldIndex(l []api.Field, name string) int {
	return slices.IndexFunc(l, func(f api.Field) bool { return f.Name == name })
}

// states returns the state variables that a name in a node can denote.
func (m *model) states(n *node) []api.Field {
	for ; n.up != nil; n = n.up {
		if n.Kind == syntax.KOn {
			return m.vars(n.up.Text)
		}
	}
	return nil
}

func (m *model) vars(actor string) []api.Field {
	k, _ := types.Actor(m.p, actor)
	var l []api.Field
	for _, v := range m.p.Actors[k].Vars {
		l = append(l, api.Field{Name: v.Name, Type: v.Type})
	}
	return l
}

func primitiveOf(name string) int {
	return slices.Index(strings.Fields("- len at put slice size sub show"), name)
}

func (m *model) functionOf(name string) int {
	return slices.IndexFunc(m.p.Funs, func(f api.Fun) bool { return f.Name == name })
}

// name returns that of a node, or "self", which is no other name.
func (n *node) name() string {
	if n.Kind == syntax.KSelf {
		return "self"
	}
	return n.Text
}

// sort tells what a node with a name denotes: a "local", a "state", "self", a "function", a "primitive" or "nothing".
func (m *model) sort(n *node) string { return m.sortOf(n, n.name()) }

// sortOf tells what a name denotes at a node.
func (m *model) sortOf(n *node, name string) string {
	isSame := func(b binding) bool { return b.name == name }
	switch {
	case name == "self" && n.actorAround() != nil:
		return "self"
	case slices.ContainsFunc(m.visible(n), isSame):
		return "local"
	case fieldIndex(m.states(n), name) >= 0:
		return "state"
	case m.functionOf(name) >= 0:
		return "function"
	case primitiveOf(name) > 0:
		return "primitive"
	}
	return "nothing"
}

// binder returns the binding of a name that denotes a local one at a node, and the number of inner ones.
func (m *model) binder(n *node, name string) (int, binding) {
	l := m.visible(n)
	k := slices.IndexFunc(l, func(b binding) bool { return b.name == name })
	return k, l[k]
}

// captured returns what a lambda captures.
func (m *model) captured(lambda *node) []api.Field {
	if l, ok := m.captures[lambda]; ok {
		return l
	}
	var l []api.Field
	for _, x := range lambda.last().all(true) {
		if x.Kind != syntax.KName && x.Kind != syntax.KSelf {
			continue
		}
		f := api.Field{Name: x.name()}
		switch m.sort(x) {
		case "local":
			_, b := m.binder(x, x.Text)
			if b.owner.within(lambda) {
				continue
			}
			f.Type = b.t
		case "state", "self":
			f.Type = m.typeOf(x)
		default:
			continue
		}
		if fieldIndex(l, f.Name) < 0 {
			l = append(l, f)
		}
	}
	m.captures[lambda] = l
	return l
}

// base is the number of slots of captured variables of a function.
func (m *model) base(function *node) int {
	if function.Kind != syntax.KLambda {
		return 0
	}
	return len(m.captured(function))
}

// locals is the number of local bindings in scope at a node.
func (m *model) locals(n *node) int {
	count, function := 0, n.function()
	for _, b := range m.visible(n) {
		if b.owner.within(function) {
			count++
		}
	}
	return m.base(function) + count
}

// slots is the largest number of local bindings in scope in parts of a function, and at least that of its parameters.
func (m *model) slots(function *node, parts ...*node) int {
	most := m.base(function) + len(function.of(syntax.KField))
	for _, part := range parts {
		for _, x := range part.all(false) {
			count := m.locals(x)
			if x.Kind == syntax.KSLet || x.Kind == syntax.KSSpawn && x.kids[0].Text != "_" {
				count++
			}
			most = max(most, count)
		}
	}
	return most
}

// typeOf returns the type of an expression without errors that needs no expected type.
func (m *model) typeOf(n *node) api.Type {
	if t, ok := m.types[n]; ok {
		return t
	}
	t := m.inferred(n)
	m.types[n] = t
	return t
}

func (m *model) inferred(n *node) api.Type {
	switch n.Kind {
	case syntax.KInt, syntax.KNeg:
		return kind(api.TyInt)
	case syntax.KText:
		return kind(api.TyText)
	case syntax.KBool, syntax.KNot:
		return kind(api.TyBool)
	case syntax.KUnit:
		return kind(api.TyUnit)
	case syntax.KName:
		return m.nameType(n)
	case syntax.KSelf:
		return api.Type{Kind: api.TyRef, Name: n.actorAround().Text}
	case syntax.KList:
		return kind(api.TyList, m.typeOf(n.kids[0]))
	case syntax.KNew:
		return api.Type{Kind: api.TyNamed, Name: n.Text}
	case syntax.KCons:
		owner, _, _ := types.Ctor(m.p, n.Text)
		return api.Type{Kind: api.TyNamed, Name: owner}
	case syntax.KGet:
		fields, _ := m.fields(m.typeOf(n.kids[0]))
		return fields[fieldIndex(fields, n.Text)].Type
	case syntax.KWith:
		return m.typeOf(n.kids[0])
	case syntax.KCall:
		return m.callType(n)
	case syntax.KBin:
		if n.Text == "++" {
			return m.typeOf(n.kids[0])
		}
		if strings.Contains("+-*/%", n.Text) {
			return kind(api.TyInt)
		}
		return kind(api.TyBool)
	case syntax.KIf, syntax.KLet:
		return m.typeOf(n.kids[1])
	case syntax.KMatch:
		return m.typeOf(n.kids[1].last())
	}
	return m.lambdaType(n)
}

func (m *model) nameType(n *node) api.Type {
	switch m.sort(n) {
	case "local":
		_, b := m.binder(n, n.Text)
		return b.t
	case "state":
		l := m.states(n)
		return l[fieldIndex(l, n.Text)].Type
	}
	f := m.p.Funs[m.functionOf(n.Text)]
	return kind(api.TyFun, append(typesOf(f.Params), f.Result)...)
}

func (m *model) lambdaType(n *node) api.Type {
	var args []api.Type
	for _, f := range n.of(syntax.KField) {
		args = append(args, read(f.kids[0]))
	}
	return kind(api.TyFun, append(args, read(n.kids[len(n.kids)-2]))...)
}

func (m *model) callType(n *node) api.Type {
	callee := n.kids[0]
	if callee.Kind == syntax.KName && m.sort(callee) == "primitive" {
		switch callee.Text {
		case "at":
			return m.typeOf(n.kids[1]).Args[0]
		case "put", "slice":
			return m.typeOf(n.kids[1])
		case "sub", "show":
			return kind(api.TyText)
		}
		return kind(api.TyInt)
	}
	args := m.typeOf(callee).Args
	return args[len(args)-1]
}
