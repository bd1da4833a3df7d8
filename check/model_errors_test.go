package check_test

import (
	"slices"

	"retroact/api"
	"retroact/syntax"
	"retroact/types"
)

// problem is the first error of a part, if it has one.
type problem struct {
	e  api.Errno
	at int
}

func at(n *node, e api.Errno) *problem { return &problem{e, n.At} }

// first returns the first problem of a list of steps, none of which is taken after it.
func first(steps ...func() *problem) *problem {
	for _, step := range steps {
		if p := step(); p != nil {
			return p
		}
	}
	return nil
}

// unless is a step that finds an error at a node, unless a condition holds.
func unless(n *node, e api.Errno, holds func() bool) func() *problem {
	return func() *problem {
		if holds() {
			return nil
		}
		return at(n, e)
	}
}

// is is a step that checks an expression against a type, which is none if it has no kind.
func (m *model) is(n *node, want api.Type) func() *problem {
	return func() *problem { return m.problem(n, want) }
}

func (m *model) has(n *node) func() *problem { return m.is(n, api.Type{}) }

// same is a step that checks an expression against the type of another one.
func (m *model) same(n, other *node, want api.Type) func() *problem {
	return func() *problem {
		if want.Kind == 0 {
			want = m.typeOf(other)
		}
		return m.problem(n, want)
	}
}

// each is a step that takes a step for each of some nodes.
func each(l []*node, step func(k int, n *node) *problem) func() *problem {
	return func() *problem {
		for k, n := range l {
			if p := step(k, n); p != nil {
				return p
			}
		}
		return nil
	}
}

func (m *model) args(form *node, l []*node, params func() []api.Type) func() *problem {
	return func() *problem {
		return first(
			unless(form, api.ErrType, func() bool { return len(l) == len(params()) }),
			each(l, func(k int, n *node) *problem { return m.problem(n, params()[k]) }),
		)
	}
}

// problem finds the first error of an expression.
func (m *model) problem(n *node, want api.Type) *problem {
	if p := m.inner(n, want); p != nil {
		return p
	}
	isDirected := slices.Contains([]int{syntax.KList, syntax.KIf, syntax.KLet, syntax.KMatch, syntax.KWith}, n.Kind) || n.Kind == syntax.KBin && n.Text == "++" || m.isListCall(n) && want.Kind == api.TyList
	if want.Kind == 0 || isDirected || types.Same(m.typeOf(n), want) {
		return nil
	}
	return at(n, api.ErrType)
}

// isListCall reports whether a node is a call of put or slice, to whose list the expected type goes.
func (m *model) isListCall(n *node) bool {
	return n.Kind == syntax.KCall && n.kids[0].Kind == syntax.KName && m.sort(n.kids[0]) == "primitive" && slices.Contains([]string{"put", "slice"}, n.kids[0].Text)
}

// inner finds the first error of an expression, but not that its type is another one than the expected one.
func (m *model) inner(n *node, want api.Type) *problem {
	number, truth := kind(api.TyInt), kind(api.TyBool)
	k := n.kids
	switch n.Kind {
	case syntax.KName, syntax.KSelf:
		return first(
			unless(n, api.ErrName, func() bool { return m.sort(n) != "nothing" }),
			unless(n, api.ErrType, func() bool { return m.sort(n) != "primitive" }),
		)
	case syntax.KList:
		var element api.Type
		if want.Kind == api.TyList {
			element = want.Args[0]
		}
		return first(
			unless(n, api.ErrType, func() bool { return want.Kind == api.TyList || want.Kind == 0 && len(k) > 0 }),
			each(k, func(j int, x *node) *problem {
				if j == 0 {
					return m.problem(x, element)
				}
				return m.same(x, k[0], element)()
			}),
		)
	case syntax.KNew:
		fields, ok := m.fields(api.Type{Kind: api.TyNamed, Name: n.Text})
		return first(
			unless(n, api.ErrName, func() bool { return ok }), m.sets(k, fields),
			unless(n, api.ErrNeed, func() bool { return len(k) == len(fields) }),
		)
	case syntax.KWith:
		fields := func() []api.Field { l, _ := m.fields(m.typeOf(k[0])); return l }
		return first(
			m.is(k[0], want),
			unless(n, api.ErrType, func() bool { _, ok := m.fields(m.typeOf(k[0])); return ok }),
			func() *problem { return m.sets(k[1:], fields())() },
		)
	case syntax.KCons:
		owner, ctor, _ := types.Ctor(m.p, n.Text)
		ctors := m.ctors(api.Type{Kind: api.TyNamed, Name: owner})
		return first(unless(n, api.ErrName, func() bool { return ctors != nil }), m.args(n, k, func() []api.Type { return typesOf(ctors[ctor].Fields) }))
	case syntax.KGet:
		return first(
			m.has(k[0]),
			unless(n, api.ErrType, func() bool { _, ok := m.fields(m.typeOf(k[0])); return ok }),
			unless(n, api.ErrName, func() bool { l, _ := m.fields(m.typeOf(k[0])); return fieldIndex(l, n.Text) >= 0 }),
		)
	case syntax.KCall:
		return m.callProblem(n, want)
	case syntax.KNeg:
		return m.problem(k[0], number)
	case syntax.KNot:
		return m.problem(k[0], truth)
	case syntax.KBin:
		return m.binaryProblem(n, want)
	case syntax.KIf:
		return first(m.is(k[0], truth), m.is(k[1], want), m.same(k[2], k[1], want))
	case syntax.KLet:
		return first(m.has(k[0]), m.is(k[1], want))
	case syntax.KMatch:
		return m.matchProblem(n, func(j int, arm *node) *problem {
			if j == 0 {
				return m.problem(arm.last(), want)
			}
			return m.same(arm.last(), k[1].last(), want)()
		})
	case syntax.KLambda:
		own := n.of(syntax.KField)
		return first(m.declared(n.kids[:len(n.kids)-1]), distinct(own), func() *problem { return m.problem(n.last(), read(n.kids[len(n.kids)-2])) })
	}
	return nil
}

func (m *model) sets(l []*node, fields []api.Field) func() *problem {
	return each(l, func(k int, n *node) *problem {
		return first(setName(l[:k], n, fields), func() *problem { return m.problem(n.kids[0], fields[fieldIndex(fields, n.Text)].Type) })
	})
}

// setName is a step that checks the name of a set behind earlier ones.
func setName(earlier []*node, n *node, fields []api.Field) func() *problem {
	return func() *problem {
		return first(
			unless(n, api.ErrName, func() bool { return fieldIndex(fields, n.Text) >= 0 }),
			unless(n, api.ErrTwice, func() bool {
				return !slices.ContainsFunc(earlier, func(x *node) bool { return x.Text == n.Text })
			}),
		)
	}
}

func distinct(l []*node) func() *problem {
	return each(l, func(k int, n *node) *problem {
		return unless(n, api.ErrTwice, func() bool {
			return !slices.ContainsFunc(l[:k], func(x *node) bool { return x.Text == n.Text })
		})()
	})
}

// declared is a step that looks for a type node whose name is not declared.
func (m *model) declared(l []*node) func() *problem {
	var all []*node
	for _, n := range l {
		all = append(all, n.all(true)...)
	}
	return each(all, func(_ int, n *node) *problem {
		_, isType := types.Find(m.p, n.Text)
		_, isActor := types.Actor(m.p, n.Text)
		isBasic := slices.Contains([]string{"int", "bool", "text", "unit"}, n.Text)
		if n.Kind == syntax.KTypeName && !isType && !isBasic || n.Kind == syntax.KTypeRef && !isActor {
			return at(n, api.ErrName)
		}
		return nil
	})
}

func (m *model) callProblem(n *node, want api.Type) *problem {
	callee, args := n.kids[0], n.kids[1:]
	if callee.Kind == syntax.KName && m.sort(callee) == "primitive" {
		return m.primitiveProblem(n, want)
	}
	params := func() []api.Type { l := m.typeOf(callee).Args; return l[:len(l)-1] }
	return first(m.has(callee), unless(n, api.ErrType, func() bool { return m.typeOf(callee).Kind == api.TyFun }), m.args(n, args, params))
}

func (m *model) primitiveProblem(n *node, want api.Type) *problem {
	args := n.kids[1:]
	number, text, none := kind(api.TyInt), kind(api.TyText), api.Type{}
	// The list and the element have no types here.
	params := [][]api.Type{nil, {none}, {none, number}, {none, number, none}, {none, number, number}, {text}, {text, number, number}, {number}}[primitiveOf(n.kids[0].Text)]
	if !m.isListCall(n) || want.Kind != api.TyList {
		want = none
	}
	return first(
		unless(n, api.ErrType, func() bool { return len(args) == len(params) }),
		each(args, func(k int, x *node) *problem {
			if params[k].Kind != 0 {
				return m.problem(x, params[k])
			}
			if k > 0 {
				element := want
				if want.Kind == 0 {
					element = m.typeOf(args[0])
				}
				return m.problem(x, element.Args[0])
			}
			return first(m.is(x, want), unless(x, api.ErrType, func() bool { return want.Kind != 0 || m.typeOf(x).Kind == api.TyList }))
		}),
	)
}

func (m *model) binaryProblem(n *node, want api.Type) *problem {
	left, right := n.kids[0], n.kids[1]
	one := func(t api.Type, kinds ...int) bool { return slices.Contains(kinds, t.Kind) }
	switch n.Text {
	case "and", "or":
		return first(m.is(left, kind(api.TyBool)), m.is(right, kind(api.TyBool)))
	case "==", "!=":
		return first(m.has(left), unless(left, api.ErrType, func() bool { return types.Storable(m.typeOf(left)) }), m.same(right, left, api.Type{}))
	case "<", "<=", ">", ">=":
		return first(m.has(left), unless(left, api.ErrType, func() bool { return one(m.typeOf(left), api.TyInt, api.TyText) }), m.same(right, left, api.Type{}))
	case "++":
		return first(
			unless(n, api.ErrType, func() bool { return one(want, 0, api.TyText, api.TyList) }), m.is(left, want),
			unless(left, api.ErrType, func() bool { return want.Kind != 0 || one(m.typeOf(left), api.TyText, api.TyList) }), m.same(right, left, want),
		)
	}
	return first(m.is(left, kind(api.TyInt)), m.is(right, kind(api.TyInt)))
}

// matchProblem finds the first error of a match, whose bodies a function checks.
func (m *model) matchProblem(n *node, body func(k int, arm *node) *problem) *problem {
	arms := n.kids[1:]
	scrutinee := n.kids[0]
	ctors := func() []api.Ctor { return m.ctors(m.typeOf(scrutinee)) }
	has := func(l []*node, name string) bool {
		return slices.ContainsFunc(l, func(x *node) bool { return x.Text == name })
	}
	return first(
		m.has(scrutinee), unless(scrutinee, api.ErrType, func() bool { return ctors() != nil }),
		each(arms, func(k int, arm *node) *problem {
			ctor := slices.IndexFunc(ctors(), func(c api.Ctor) bool { return c.Name == arm.Text })
			return first(
				unless(arm, api.ErrTwice, func() bool { return !has(arms[:k], "_") && !has(arms[:k], arm.Text) }),
				unless(arm, api.ErrName, func() bool { return arm.Text == "_" || ctor >= 0 }),
				unless(arm, api.ErrType, func() bool {
					return arm.Text == "_" || len(arm.of(syntax.KBind)) == len(ctors()[ctor].Fields)
				}),
				func() *problem { return body(k, arm) },
			)
		}),
		unless(n, api.ErrNeed, func() bool { return has(arms, "_") || len(arms) == len(ctors()) }),
	)
}

func (m *model) handler(actor, message string) (api.Handler, bool) {
	k, ok := types.Actor(m.p, actor)
	if !ok {
		return api.Handler{}, false
	}
	j := slices.IndexFunc(m.p.Actors[k].On, func(h api.Handler) bool { return h.Msg == message })
	if j < 0 {
		return api.Handler{}, false
	}
	return m.p.Actors[k].On[j], true
}

func (m *model) blockProblem(n *node) *problem {
	return each(n.kids, func(_ int, x *node) *problem { return m.stmtProblem(x) })()
}

func (m *model) stmtProblem(n *node) *problem {
	k := n.kids
	switch n.Kind {
	case syntax.KSLet:
		return m.problem(k[0], api.Type{})
	case syntax.KSSet:
		vars := m.states(n)
		j := fieldIndex(vars, n.Text)
		return first(unless(n, api.ErrName, func() bool { return j >= 0 }), func() *problem { return m.problem(k[0], vars[j].Type) })
	case syntax.KSIf:
		return first(m.is(k[0], kind(api.TyBool)), each(k[1:], func(_ int, x *node) *problem { return m.blockProblem(x) }))
	case syntax.KSMatch:
		return m.matchProblem(n, func(_ int, arm *node) *problem { return m.blockProblem(arm.last()) })
	case syntax.KSFor:
		return first(m.has(k[0]), unless(k[0], api.ErrType, func() bool { return m.typeOf(k[0]).Kind == api.TyList }), func() *problem { return m.blockProblem(k[1]) })
	case syntax.KSSend:
		handler := func() (api.Handler, bool) { return m.handler(m.typeOf(k[0]).Name, n.Text) }
		return first(
			m.has(k[0]), unless(k[0], api.ErrType, func() bool { return m.typeOf(k[0]).Kind == api.TyRef }),
			unless(n, api.ErrName, func() bool { _, ok := handler(); return ok }),
			m.args(n, k[1:], func() []api.Type { h, _ := handler(); return typesOf(h.Params) }),
		)
	case syntax.KSAfter:
		return first(m.is(k[0], kind(api.TyInt)), func() *problem { return m.stmtProblem(k[1]) })
	case syntax.KSSpawn:
		a, ok := types.Actor(m.p, n.Text)
		args, nodes := k[1:len(k)-n.N], k[len(k)-n.N:]
		return first(
			unless(n, api.ErrName, func() bool { return ok }), m.args(n, args, func() []api.Type { return typesOf(m.p.Actors[a].Params) }),
			each(nodes, func(_ int, x *node) *problem { return m.problem(x, kind(api.TyInt)) }),
		)
	case syntax.KSDo:
		message := n.last()
		effect := slices.IndexFunc(m.p.Effects, func(f api.Effect) bool { return f.Name == n.Text })
		h, ok := m.handler(n.actorAround().Text, message.Text)
		return first(
			unless(n, api.ErrName, func() bool { return effect >= 0 }), m.args(n, k[:len(k)-1], func() []api.Type { return typesOf(m.p.Effects[effect].Params) }),
			unless(message, api.ErrName, func() bool { return ok }),
			unless(message, api.ErrType, func() bool {
				return len(h.Params) == 1 && types.Same(h.Params[0].Type, m.p.Effects[effect].Answer)
			}),
		)
	case syntax.KSFail:
		return m.problem(k[0], kind(api.TyText))
	}
	return nil
}

// declProblem finds the first error of a declaration.
func (m *model) declProblem(n *node) *problem {
	switch n.Kind {
	case syntax.KFun:
		return m.problem(n.last(), read(n.kids[len(n.kids)-2]))
	case syntax.KActor:
		return each(n.of(syntax.KState, syntax.KOn), func(_ int, x *node) *problem {
			if x.Kind == syntax.KOn {
				return m.blockProblem(x.last())
			}
			return m.problem(x.last(), read(x.kids[0]))
		})()
	}
	return nil
}

// changeProblem finds the first error of a change behind earlier ones.
func (m *model) changeProblem(earlier []*node, n *node) *problem {
	_, isActor := types.Actor(m.p, n.Text)
	fields := n.of(syntax.KField)
	old := func() *problem {
		return first(m.declared(fields), each(fields, func(_ int, f *node) *problem {
			return unless(f.kids[0], api.ErrType, func() bool { return types.Storable(read(f.kids[0])) })()
		}), distinct(fields))
	}
	declared := unless(n, api.ErrName, func() bool { return isActor })
	twice := unless(n, api.ErrTwice, func() bool {
		return !slices.ContainsFunc(earlier, func(x *node) bool { return changed(x) == changed(n) })
	})
	switch n.Kind {
	case syntax.KConvType:
		return first(old, m.has(n.last()), unless(n.last(), api.ErrType, func() bool { return m.typeOf(n.last()).Kind == api.TyNamed }), twice)
	case syntax.KConvActor:
		return first(declared, old, func() *problem {
			vars, sets := m.vars(n.Text), n.of(syntax.KSet)
			return first(
				each(sets, func(k int, x *node) *problem { return setName(sets[:k], x, vars)() }),
				unless(n, api.ErrNeed, func() bool { return len(sets) == len(vars) }),
				each(inOrder(sets, vars), func(k int, x *node) *problem { return m.problem(x.kids[0], vars[k].Type) }),
			)
		}, twice)
	case syntax.KConvMsg:
		to := n.last()
		return first(declared, old, unless(to, api.ErrName, func() bool { _, ok := m.params(n.Text, to.Text); return ok }), m.args(to, to.kids, func() []api.Type {
			params, _ := m.params(n.Text, to.Text)
			return typesOf(params)
		}), twice)
	case syntax.KMove:
		return first(declared, unless(n, api.ErrRange, func() bool { return n.N < 8 }), twice)
	case syntax.KDrop:
		return twice()
	}
	return nil
}

// changed names what a change is about, as no earlier change may be.
func changed(n *node) string {
	switch n.Kind {
	case syntax.KConvType:
		if n.N == 1 {
			return "type " + n.Text + "." + n.kids[0].Text
		}
		return "type " + n.Text + "." + n.Text
	case syntax.KConvActor:
		return "actor " + n.Text
	case syntax.KConvMsg:
		return "message " + n.Text + "." + n.kids[0].Text
	}
	return "place of " + n.Text
}

func inOrder(sets []*node, vars []api.Field) []*node {
	var l []*node
	for _, v := range vars {
		l = append(l, sets[slices.IndexFunc(sets, func(x *node) bool { return x.Text == v.Name })])
	}
	return l
}

// params returns the parameters of a message of an actor, or of the actor itself for init.
func (m *model) params(actor, message string) ([]api.Field, bool) {
	if k, ok := types.Actor(m.p, actor); ok && message == "init" {
		return m.p.Actors[k].Params, true
	}
	h, ok := m.handler(actor, message)
	return h.Params, ok
}
