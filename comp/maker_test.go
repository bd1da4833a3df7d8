package comp_test

import (
	"math/rand"
	"slices"
	"strings"

	"retroact/api"
)

// maker makes arbitrary valid programs. The declarations are always the same, and what their bodies are is arbitrary.
type maker struct{ *rand.Rand }

func pick[T any](m maker, l ...T) T { return l[m.Intn(len(l))] }

// place is a scope in which expressions and statements are made.
type place struct {
	slots int
	// bound are the forms of the types of the slots that are bound, and vars those of the state variables.
	bound map[int]string
	vars  []string
	actor string
	// funs are the functions that are called often. Others, which may call this one again, are called seldom.
	funs int
}

// signature is that of a function, with the form of its result first.
type signature []string

// signatures are those of the functions. The last parameters of some of them are those of the function types in functionForms.
func signatures() []signature {
	return []signature{
		{"int", "int"}, {"int", "int", "[int]"}, {"text"}, {"text", "text", "int"}, {"[int]", "int", "[int]"}, {"V", "int", "[int]"}, {"V", "P", "int", "[int]"}, {"P", "V"}, {"bool", "int", "V"},
		{"fun(int): int", "int"}, {"[V]", "V"}, {"[[int]]", "[int]"}, {"text", "V", "[[int]]"}, {"int", "fun(int): int", "int"}, {"unit", "[text]"}, {"ref Main", "ref Main"}, {"[text]", "text"}, {"N", "P", "V"}, {"int", "N", "int"},
	}
}

// functionForms are the function types, with the forms of the result and the parameters.
func functionForms() map[string]signature {
	return map[string]signature{"fun(int): int": {"int", "int"}, "fun(): text": {"text"}, "fun(int, [int]): V": {"V", "int", "[int]"}}
}

// recordFields are the forms of the fields of the record types.
func recordFields() map[string][]string {
	return map[string][]string{"P": {"int", "[int]"}, "N": {"P", "V"}}
}

// ctorFields are those of the constructors of V.
func ctorFields() [][]string { return [][]string{{"int"}, {"P", "text"}, {}, {"[V]"}} }

// message is a message with its parameters, or an effect with its reply.
type message struct {
	name, reply string
	params      []string
}

func messages() map[string][]message {
	return map[string][]message{
		"Main": {{name: "Ok", params: []string{"bool"}}, {name: "Got", params: []string{"text"}}, {name: "Told", params: []string{"V"}}, {name: "Go", params: []string{"int", "[int]", "V", "text", "ref W"}}},
		"W":    {{name: "Do", params: []string{"int", "[[int]]"}}, {name: "End"}},
	}
}

func effects() []message {
	return []message{{"pay", "Ok", []string{"int", "text"}}, {"ask", "Got", nil}, {"tell", "Told", []string{"V", "[V]"}}}
}

func actorParams() map[string][]string {
	return map[string][]string{"Main": nil, "W": {"int", "P", "ref Main"}}
}

func stateVars() map[string][]string {
	return map[string][]string{"Main": {"int", "[int]", "V", "text"}, "W": {"P", "[[int]]", "int", "N", "[V]"}}
}

// named gives names to forms.
func named(forms []string) []api.Field {
	var l []api.Field
	for k, form := range forms {
		l = append(l, api.Field{Name: string(rune('a' + k)), Type: typ(form)})
	}
	return l
}

// program makes a program.
func (m maker) program() api.Prog {
	p := api.Prog{Types: []api.Decl{
		{Name: "P", Record: true, Ctors: []api.Ctor{{Name: "P", Fields: fields("x", "int", "y", "[int]")}}}, {Name: "N", Record: true, Ctors: []api.Ctor{{Name: "N", Fields: fields("p", "P", "v", "V")}}},
		{Name: "V", Ctors: []api.Ctor{{Name: "A", Fields: fields("", "int")}, {Name: "B", Fields: fields("", "P", "", "text")}, {Name: "C"}, {Name: "D", Fields: fields("", "[V]")}}},
	}}
	for k, e := range effects() {
		p.Effects = append(p.Effects, api.Effect{Name: e.name, Params: named(e.params), Answer: typ([]string{"bool", "text", "V"}[k])})
	}
	for k, s := range signatures() {
		in := m.place(s[1:], nil, "", k)
		p.Funs = append(p.Funs, api.Fun{Params: named(s[1:]), Result: typ(s[0]), Slots: in.slots, Body: m.expr(s[0], in, 2+m.Intn(3), true)})
	}
	for _, name := range []string{"Main", "W"} {
		p.Actors = append(p.Actors, m.actor(name))
	}
	return p
}

func (m maker) actor(name string) api.Actor {
	in := m.place(actorParams()[name], nil, name, len(signatures()))
	a := api.Actor{Name: name, Params: named(actorParams()[name]), Slots: in.slots}
	for k, form := range stateVars()[name] {
		a.Vars = append(a.Vars, api.Var{Name: string(rune('s' + k)), Type: typ(form), Init: m.expr(form, in, 3, true)})
	}
	for _, msg := range messages()[name] {
		in := m.place(msg.params, stateVars()[name], name, len(signatures()))
		a.On = append(a.On, api.Handler{Msg: msg.name, Params: named(msg.params), Slots: in.slots, Body: m.block(in, 3)})
	}
	return a
}

func (m maker) place(params, vars []string, actor string, funs int) *place {
	in := &place{slots: len(params) + m.Intn(12), bound: map[int]string{}, vars: vars, actor: actor, funs: funs}
	for k, form := range params {
		in.bound[k] = form
	}
	return in
}

// free returns the first of some slots that are not bound, one behind the other.
func (m maker) free(in *place, count int) (int, bool) {
	if in.slots < count {
		return 0, false
	}
	first := m.Intn(in.slots - count + 1)
	for k := range count {
		if in.bound[first+k] != "" {
			return 0, false
		}
	}
	return first, true
}

// known returns an expression for something of a type that is already there.
func (m maker) known(form string, in *place) (api.Expr, bool) {
	var l []api.Expr
	for slot := range in.slots {
		if in.bound[slot] == form {
			l = append(l, api.Expr{Op: api.XLocal, N: slot})
		}
	}
	for k, f := range in.vars {
		if f == form {
			l = append(l, api.Expr{Op: api.XState, N: k})
		}
	}
	if in.actor != "" && form == "ref "+in.actor {
		l = append(l, api.Expr{Op: api.XSelf})
	}
	if len(l) == 0 {
		return api.Expr{}, false
	}
	return pick(m, l...), true
}

// expr makes an expression of a type. Its type must be plain without an expected one, unless that is expected.
func (m maker) expr(form string, in *place, depth int, expected bool) api.Expr {
	if m.Intn(4) == 0 || depth <= 0 && m.Intn(3) > 0 || strings.HasPrefix(form, "ref ") {
		if x, found := m.known(form, in); found {
			return x
		}
	}
	if depth > 0 && m.Intn(3) == 0 {
		if x, made := m.common(form, in, depth-1, expected); made {
			return x
		}
	}
	return m.special(form, in, depth-1, expected)
}

func (m maker) exprs(forms []string, in *place, depth int) []api.Expr {
	var l []api.Expr
	for _, form := range forms {
		l = append(l, m.expr(form, in, depth, true))
	}
	return l
}

// common makes one of the expressions that there are for each type, if it can.
func (m maker) common(form string, in *place, depth int, expected bool) (api.Expr, bool) {
	switch m.Intn(8) {
	case 0:
		return api.Expr{Op: api.XIf, Kids: []api.Expr{m.expr("bool", in, depth, true), m.expr(form, in, depth, expected), m.expr(form, in, depth, true)}}, true
	case 1:
		return m.let(form, in, depth, expected)
	case 2:
		return m.match(form, in, depth, expected), true
	case 3:
		l := api.Expr{Op: api.XList}
		for k := range 1 + m.Intn(3) {
			l.Kids = append(l.Kids, m.expr(form, in, depth-1, k > 0))
		}
		return api.Expr{Op: api.XPrim, N: api.PAt, Kids: []api.Expr{l, m.index(in, depth)}}, true
	case 4, 5:
		return m.call(form, in, depth)
	case 6:
		for _, f := range []string{"fun(int): int", "fun(): text", "fun(int, [int]): V"} {
			if s := functionForms()[f]; s[0] == form {
				return api.Expr{Op: api.XApply, Kids: append([]api.Expr{m.expr(f, in, depth, false)}, m.exprs(s[1:], in, depth)...)}, true
			}
		}
	default:
		for _, name := range []string{"N", "P"} {
			if k := slices.Index(recordFields()[name], form); k >= 0 {
				return api.Expr{Op: api.XGet, N: k, Kids: []api.Expr{m.expr(name, in, depth, false)}}, true
			}
		}
	}
	return api.Expr{}, false
}

// forms are those of the types of what may be bound.
func forms() []string {
	return []string{"int", "bool", "text", "unit", "[int]", "[text]", "[[int]]", "P", "N", "V", "[V]", "fun(int): int", "fun(): text", "fun(int, [int]): V"}
}

func (m maker) let(form string, in *place, depth int, expected bool) (api.Expr, bool) {
	slot, found := m.free(in, 1)
	if !found {
		return api.Expr{}, false
	}
	other := pick(m, forms()...)
	x := api.Expr{Op: api.XLet, N: slot, Kids: []api.Expr{m.expr(other, in, depth, false)}}
	in.bound[slot] = other
	x.Kids = append(x.Kids, m.expr(form, in, depth, expected))
	delete(in.bound, slot)
	return x, true
}

// arms calls a function for each arm of a match of a V.
func (m maker) arms(in *place, make func(ctor, first int)) {
	order := m.Perm(len(ctorFields()))
	for k, ctor := range order {
		fs := ctorFields()[ctor]
		first, found := m.free(in, len(fs))
		if !found || k > 0 && m.Intn(4) == 0 {
			make(-1, m.Intn(in.slots+1))
			return
		}
		for j, form := range fs {
			in.bound[first+j] = form
		}
		make(ctor, first)
		for j := range fs {
			delete(in.bound, first+j)
		}
	}
}

func (m maker) match(form string, in *place, depth int, expected bool) api.Expr {
	x := api.Expr{Op: api.XMatch, Kids: []api.Expr{m.expr("V", in, depth, false)}}
	m.arms(in, func(ctor, first int) {
		result := m.expr(form, in, depth-1, expected || len(x.Kids) > 1)
		x.Kids = append(x.Kids, api.Expr{Op: api.XArm, N: ctor, M: first, Kids: []api.Expr{result}})
	})
	return x
}

// call makes a call of a function with some result.
func (m maker) call(form string, in *place, depth int) (api.Expr, bool) {
	all := signatures()
	for range 8 {
		k := m.Intn(len(all))
		if k >= in.funs && m.Intn(10) > 0 || all[k][0] != form || slices.ContainsFunc(all[k][1:], func(f string) bool { return strings.HasPrefix(f, "ref ") }) {
			continue
		}
		return api.Expr{Op: api.XCall, N: k, Kids: m.exprs(all[k][1:], in, depth)}, true
	}
	return api.Expr{}, false
}

// index makes an integer that is often a small one.
func (m maker) index(in *place, depth int) api.Expr {
	if m.Intn(6) > 0 {
		return api.Expr{Op: api.XInt, N: pick(m, 0, 0, 0, 0, 0, 0, 0, 0, 1, 1, 2, 3, -1)}
	}
	return m.expr("int", in, depth, true)
}

// special makes an expression that there is for one type alone.
func (m maker) special(form string, in *place, depth int, expected bool) api.Expr {
	switch form {
	case "unit":
		return api.Expr{Op: api.XUnit}
	case "int":
		return m.integer(in, depth)
	case "bool":
		return m.truth(in, depth)
	case "text":
		return m.text(in, depth)
	case "V":
		ctor := m.Intn(len(ctorFields()))
		if depth < 0 {
			ctor = 2 * m.Intn(2)
		}
		return api.Expr{Op: api.XCtor, N: ctor, S: "V", Kids: m.exprs(ctorFields()[ctor], in, depth)}
	case "P", "N":
		fs := recordFields()[form]
		if k := m.Intn(len(fs)); depth > 0 && m.Intn(2) == 0 {
			return api.Expr{Op: api.XWith, N: k, Kids: []api.Expr{m.expr(form, in, depth, expected), m.expr(fs[k], in, depth, true)}}
		}
		return api.Expr{Op: api.XRec, S: form, Kids: m.exprs(fs, in, depth)}
	}
	if strings.HasPrefix(form, "[") {
		return m.list(form, in, depth, expected)
	}
	return m.closure(form, in, depth)
}

func (m maker) integer(in *place, depth int) api.Expr {
	if depth < 0 || m.Intn(3) == 0 {
		return api.Expr{Op: api.XInt, N: pick(m, 0, 0, 1, 1, 2, 3, 5, -1, -3, m.Intn(100), 1<<20, 1<<20+1, 1<<52, api.MaxNum, -api.MaxNum, api.MaxNum-1)}
	}
	with := func(op int, forms ...string) api.Expr { return api.Expr{Op: op, Kids: m.exprs(forms, in, depth)} }
	switch op := pick(m, api.XNeg, api.XAdd, api.XAdd, api.XSub, api.XMul, api.XDiv, api.XMod, -1, -2); op {
	case api.XNeg:
		return with(op, "int")
	case -1:
		return api.Expr{Op: api.XPrim, N: api.PLen, Kids: []api.Expr{m.expr(pick(m, "[int]", "[V]", "[[int]]", "[text]"), in, depth, false)}}
	case -2:
		return api.Expr{Op: api.XPrim, N: api.PSize, Kids: m.exprs([]string{"text"}, in, depth)}
	default:
		return with(op, "int", "int")
	}
}

func (m maker) truth(in *place, depth int) api.Expr {
	if depth < 0 {
		return api.Expr{Op: api.XBool, N: m.Intn(2)}
	}
	pair := func(op int, form string) api.Expr {
		return api.Expr{Op: op, Kids: []api.Expr{m.expr(form, in, depth, false), m.expr(form, in, depth, true)}}
	}
	switch op := pick(m, api.XAnd, api.XOr, api.XNot, api.XEq, api.XNe, api.XLt, api.XLe, api.XGt, api.XGe); op {
	case api.XNot:
		return api.Expr{Op: op, Kids: m.exprs([]string{"bool"}, in, depth)}
	case api.XAnd, api.XOr:
		return pair(op, "bool")
	case api.XEq, api.XNe:
		return pair(op, pick(m, "int", "text", "bool", "unit", "[int]", "V", "P", "N", "[[int]]"))
	default:
		return pair(op, pick(m, "int", "text"))
	}
}

func (m maker) text(in *place, depth int) api.Expr {
	if depth < 0 || m.Intn(3) == 0 {
		return api.Expr{Op: api.XText, S: pick(m, "", "", "a", "b", "ab", "x\n\"\\", strings.Repeat("y", m.Intn(30)), strings.Repeat("z", pick(m, 2000, 2048, 4095, 4096)))}
	}
	switch m.Intn(4) {
	case 0:
		return api.Expr{Op: api.XPrim, N: api.PShow, Kids: m.exprs([]string{"int"}, in, depth)}
	case 1:
		return api.Expr{Op: api.XPrim, N: api.PSub, Kids: []api.Expr{m.expr("text", in, depth, true), m.index(in, depth), m.index(in, depth)}}
	}
	return api.Expr{Op: api.XCat, Kids: m.exprs([]string{"text", "text"}, in, depth)}
}

func (m maker) list(form string, in *place, depth int, expected bool) api.Expr {
	element := strings.TrimSuffix(form[1:], "]")
	if m.Intn(2) == 0 || depth < 0 {
		x := api.Expr{Op: api.XList}
		count := m.Intn(4)
		if !expected {
			count++
		}
		for k := range count {
			x.Kids = append(x.Kids, m.expr(element, in, depth, expected || k > 0))
		}
		return x
	}
	first := m.expr(form, in, depth, expected)
	switch m.Intn(4) {
	case 0:
		return api.Expr{Op: api.XPrim, N: api.PPut, Kids: []api.Expr{first, m.index(in, depth), m.expr(element, in, depth, true)}}
	case 1:
		return api.Expr{Op: api.XPrim, N: api.PSlice, Kids: []api.Expr{first, m.index(in, depth), m.index(in, depth)}}
	}
	return api.Expr{Op: api.XCat, Kids: []api.Expr{first, m.expr(form, in, depth, true)}}
}

// closure makes an XFun of a function whose last parameters are those of a function type.
func (m maker) closure(form string, in *place, depth int) api.Expr {
	want := functionForms()[form]
	var fitting []int
	for k, s := range signatures() {
		captured := len(s) - len(want)
		// Where there is no more depth, the first function that captures nothing is the only one.
		if captured >= 0 && s[0] == want[0] && slices.Equal(s[1+captured:], want[1:]) && (depth >= 0 || captured == 0) {
			fitting = append(fitting, k)
		}
	}
	k := pick(m, fitting...)
	s := signatures()[k]
	return api.Expr{Op: api.XFun, N: k, Kids: m.exprs(s[1:1+len(s)-len(want)], in, depth)}
}

// block makes statements.
func (m maker) block(in *place, depth int) []api.Stmt {
	outer := map[int]string{}
	for slot, form := range in.bound {
		outer[slot] = form
	}
	var l []api.Stmt
	for range m.Intn(5) {
		if s, made := m.statement(in, depth); made {
			l = append(l, s)
		}
	}
	in.bound = outer
	return l
}

func (m maker) statement(in *place, depth int) (api.Stmt, bool) {
	switch kind := m.Intn(16); {
	case kind < 2:
		form := pick(m, forms()...)
		slot, found := m.free(in, 1)
		if !found {
			return api.Stmt{}, false
		}
		s := api.Stmt{Op: api.SLet, N: slot, Xs: []api.Expr{m.expr(form, in, depth, false)}}
		in.bound[slot] = form
		return s, true
	case kind < 6:
		k := m.Intn(len(in.vars))
		return api.Stmt{Op: api.SSet, N: k, Xs: []api.Expr{m.expr(in.vars[k], in, depth, true)}}, true
	case kind < 10:
		return m.nested(in, depth, kind)
	case kind == 10 && m.Intn(3) == 0:
		return api.Stmt{Op: api.SStop}, true
	case kind == 12 && m.Intn(8) == 0:
		return m.loops(in, 3)
	case kind == 11 && m.Intn(3) == 0:
		return api.Stmt{Op: api.SFail, Xs: m.exprs([]string{"text"}, in, depth)}, true
	}
	return m.output(in, depth)
}

// nested makes a statement that contains others.
func (m maker) nested(in *place, depth, kind int) (api.Stmt, bool) {
	if depth <= 0 {
		return api.Stmt{}, false
	}
	switch kind {
	case 6, 7:
		return api.Stmt{Op: api.SIf, Xs: m.exprs([]string{"bool"}, in, depth), Then: m.block(in, depth-1), Else: m.block(in, depth-1)}, true
	case 8:
		s := api.Stmt{Op: api.SMatch, Xs: []api.Expr{m.expr("V", in, depth, false)}}
		m.arms(in, func(ctor, first int) {
			s.Arms = append(s.Arms, api.Stmt{Op: api.SArm, N: ctor, M: first, Then: m.block(in, depth-1)})
		})
		return s, true
	}
	form := pick(m, "[int]", "[int]", "[V]", "[[int]]", "[text]")
	slot, found := m.free(in, 1)
	if !found {
		return api.Stmt{}, false
	}
	l, known := m.known(form, in)
	if !known || m.Intn(3) == 0 {
		l = m.expr(form, in, depth, false)
	}
	s := api.Stmt{Op: api.SFor, N: slot, Xs: []api.Expr{l}}
	in.bound[slot] = strings.TrimSuffix(form[1:], "]")
	s.Then = m.block(in, depth-1)
	delete(in.bound, slot)
	return s, true
}

// loops makes loops within each other, with so many iterations that they may use all fuel.
func (m maker) loops(in *place, depth int) (api.Stmt, bool) {
	slot, found := m.free(in, 1)
	if !found {
		return api.Stmt{}, false
	}
	l := api.Expr{Op: api.XList}
	for k := range 1 + m.Intn(150) {
		l.Kids = append(l.Kids, api.Expr{Op: api.XInt, N: k})
	}
	s := api.Stmt{Op: api.SFor, N: slot, Xs: []api.Expr{l}}
	in.bound[slot] = "int"
	s.Then = []api.Stmt{{Op: api.SSet, N: 0, Xs: []api.Expr{m.expr(in.vars[0], in, 1, true)}}}
	if depth > 0 {
		if inner, made := m.loops(in, depth-1); made {
			s.Then = []api.Stmt{inner}
		}
	}
	delete(in.bound, slot)
	return s, true
}

// output makes a statement with an output.
func (m maker) output(in *place, depth int) (api.Stmt, bool) {
	depth--
	if m.Intn(4) == 0 && in.actor == "Main" {
		e := pick(m, effects()...)
		return api.Stmt{Op: api.SDo, S: e.name, T: e.reply, Xs: m.exprs(e.params, in, depth)}, true
	}
	name := pick(m, "Main", "W")
	to, found := m.known("ref "+name, in)
	if m.Intn(3) == 0 || !found {
		return m.spawn(in, depth, name)
	}
	msg := pick(m, messages()[name]...)
	if slices.ContainsFunc(msg.params, func(f string) bool { _, found := m.known(f, in); return strings.HasPrefix(f, "ref ") && !found }) {
		return api.Stmt{}, false
	}
	xs := append([]api.Expr{to}, m.exprs(msg.params, in, depth)...)
	if m.Intn(2) == 0 {
		delay := api.Expr{Op: api.XInt, N: pick(m, 0, 1, 2, 3, 1<<20, 1<<20+1)}
		if m.Intn(4) == 0 {
			delay = m.index(in, depth)
		}
		return api.Stmt{Op: api.SAfter, S: msg.name, Xs: append([]api.Expr{delay}, xs...)}, true
	}
	return api.Stmt{Op: api.SSend, S: msg.name, Xs: xs}, true
}

func (m maker) spawn(in *place, depth int, name string) (api.Stmt, bool) {
	if _, found := m.known("ref Main", in); name == "W" && !found {
		return api.Stmt{}, false
	}
	s := api.Stmt{Op: api.SSpawn, N: -1, S: name}
	if m.Intn(2) == 0 {
		s.M, s.Xs = 1, []api.Expr{m.index(in, depth)}
	}
	s.Xs = append(s.Xs, m.exprs(actorParams()[name], in, depth)...)
	if slot, found := m.free(in, 1); found && m.Intn(2) == 0 {
		s.N = slot
		in.bound[slot] = "ref " + name
	}
	return s, true
}
