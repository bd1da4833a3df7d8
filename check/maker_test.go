package check_test

import (
	"fmt"
	"math/rand"
	"slices"
	"strings"

	"retroact/api"
	"retroact/types"
)

// maker makes arbitrary patch files in which names hide each other. Where odd is 0, they have no errors; the larger it is, the more errors they have.
type maker struct {
	*rand.Rand
	// layout decides on what does not belong to the program.
	layout *rand.Rand
	odd    int
	// env are the variables in scope, the innermost one last.
	env []api.Field
	// states are the state variables that can be set.
	states []api.Field
	// self is the actor type whose code is made, if any.
	self string
}

// base are declarations that arbitrary programs contain and use.
const base = decls + `
fun rw(): ref W = rw() fun rm(): ref Main = rm() fun rq(): ref Q = rq() fun n(): N = n() fun len2(l: [int]): int = len(l) fun pick(a: text, b: text): text = a fun g(): fun(int): int = f`

func (m *maker) chance(n int) bool { return m.Intn(n) == 0 }

func (m *maker) strange() bool { return m.Intn(1000) < m.odd }

// wrong is true more often than strange, where less can be wrong.
func (m *maker) wrong() bool { return m.Intn(400) < 3*m.odd }

func (m *maker) pick(l ...string) string { return l[m.Intn(len(l))] }

// lower returns a name for a binding; there are so few that many hide others.
func (m *maker) lower() string {
	return m.pick("a", "b", "c", "s", "t", "u", "f", "len", "at", "v", "p", "g")
}

func named(name string) api.Type { return api.Type{Kind: api.TyNamed, Name: name} }

func ref(name string) api.Type { return api.Type{Kind: api.TyRef, Name: name} }

// storable returns an arbitrary storable type.
func (m *maker) storable(depth int) api.Type {
	switch m.Intn(12) {
	case 0, 1, 2:
		return kind(api.TyInt)
	case 3:
		return kind(api.TyText)
	case 4:
		return kind(api.TyBool)
	case 5:
		return kind(api.TyUnit)
	case 6, 7:
		if depth > 0 {
			return kind(api.TyList, m.storable(depth-1))
		}
	case 8:
		return ref(m.pick("W", "Main", "Q"))
	}
	return named(m.pick("P", "V", "V", "O", "T", "N", "E"))
}

func (m *maker) someType() api.Type {
	if !m.chance(6) {
		return m.storable(2)
	}
	t := kind(api.TyFun)
	for range m.Intn(3) {
		t.Args = append(t.Args, m.storable(1))
	}
	if m.chance(4) {
		t.Args = append(t.Args, kind(api.TyFun, m.storable(0)))
	}
	return kind(api.TyFun, append(t.Args, m.storable(1))...)
}

// fields makes parameters with distinct names, if nothing is strange.
func (m *maker) fields(someType func() api.Type) []api.Field {
	var l []api.Field
	for range m.Intn(4) {
		f := api.Field{Name: m.lower(), Type: someType()}
		if fieldIndex(l, f.Name) < 0 {
			l = append(l, f)
		}
	}
	return l
}

func (m *maker) stored() []api.Field { return m.fields(func() api.Type { return m.storable(2) }) }

// header writes parameters, as nothing else but lambdas and converters may have errors in it.
func (m *maker) header(l []api.Field) string {
	if len(l) > 0 && m.strange() {
		l = append(slices.Clone(l), l[m.Intn(len(l))])
	}
	return "(" + showFields(l) + ")"
}

// typed writes a type that may not be declared.
func (m *maker) typed(t api.Type) string {
	if m.strange() {
		return m.pick("Nope", "ref Nope", "[fun(Nope): int]", "ref P", "Main")
	}
	return types.Show(t)
}

// with makes something in the scope of further variables.
func (m *maker) with(l []api.Field, part func() string) string {
	outer := m.env
	m.env = append(slices.Clone(m.env), l...)
	defer func() { m.env = outer }()
	return part()
}

// variable returns a variable of a type, if there is one that is not hidden.
func (m *maker) variable(t api.Type) (string, bool) {
	var l []string
	seen := map[string]bool{}
	for _, f := range slices.Backward(m.env) {
		if !seen[f.Name] && types.Same(f.Type, t) {
			l = append(l, f.Name)
		}
		seen[f.Name] = true
	}
	if m.self != "" && types.Same(t, ref(m.self)) {
		l = append(l, "self")
	}
	if len(l) == 0 {
		return "", false
	}
	return m.pick(l...), true
}

// isHidden reports whether a variable hides a function.
func (m *maker) isHidden(name string) bool { return fieldIndex(m.env, name) >= 0 }

// expr makes an expression of a type, which needs no expected type if that is not known.
func (m *maker) expr(t api.Type, known bool, depth int) string {
	if m.strange() {
		switch m.Intn(4) {
		case 0:
			return m.pick("nope", "len", "show", "self", "f", "v", "[]", "Nope", "P", "A", "V { }", "A(1, 2)", "pay")
		default:
			t = m.someType()
		}
	}
	s := m.plain(t, known, depth)
	for m.layout.Intn(5) == 0 {
		s = "( " + s + " )"
	}
	return s
}

// operand makes an expression in parentheses.
func (m *maker) operand(t api.Type, known bool, depth int) string {
	return "(" + m.expr(t, known, depth) + ")"
}

func (m *maker) plain(t api.Type, known bool, depth int) string {
	if s, ok := m.variable(t); ok && m.chance(3) {
		return s
	}
	if depth <= 0 {
		return m.leaf(t, known)
	}
	if m.chance(2) {
		if s := m.special(t, known, depth-1); s != "" {
			return s
		}
	}
	switch m.Intn(7) {
	case 0:
		return "if " + m.expr(kind(api.TyBool), true, depth-1) + " then " + m.expr(t, known, depth-1) + " else " + m.expr(t, true, depth-1)
	case 1, 2:
		x := api.Field{Name: m.lower(), Type: m.someType()}
		return "let " + x.Name + " = " + m.expr(x.Type, false, depth-1) + " in " + m.with([]api.Field{x}, func() string { return m.expr(t, known, depth-1) })
	case 3:
		return m.match(depth-1, ",", func(k int) string { return "=> " + m.expr(t, known || k > 0, depth-1) })
	case 4:
		if !m.isHidden("at") {
			return "at(" + m.expr(kind(api.TyList, t), false, depth-1) + ", " + m.expr(kind(api.TyInt), true, depth-1) + ")"
		}
	case 5:
		l := m.fields(m.someType)
		return "(" + m.lambda(l, t, depth-1) + ")" + m.args(typesOf(l), depth-1)
	}
	return m.leaf(t, known)
}

// leaf makes a small expression of a type.
func (m *maker) leaf(t api.Type, known bool) string {
	if s, ok := m.variable(t); ok {
		return s
	}
	switch t.Kind {
	case api.TyInt:
		return m.pick("0", "1", "2", "9007199254740992")
	case api.TyText:
		return m.pick(`""`, `"a"`, `"\n"`)
	case api.TyBool:
		return m.pick("true", "false")
	case api.TyUnit:
		return "()"
	case api.TyList:
		if known && m.chance(2) {
			return "[]"
		}
		return "[" + m.leaf(t.Args[0], known) + "]"
	case api.TyRef:
		return map[string]string{"W": "rw()", "Main": "rm()", "Q": "rq()"}[t.Name]
	case api.TyFun:
		var l []api.Field
		for k, param := range t.Args[:len(t.Args)-1] {
			l = append(l, api.Field{Name: []string{"a", "b", "c"}[k], Type: param})
		}
		return m.lambda(l, t.Args[len(t.Args)-1], 0)
	}
	switch t.Name {
	case "P":
		return m.record("P", 0, []api.Field{{Name: "x", Type: kind(api.TyInt)}, {Name: "y", Type: kind(api.TyList, kind(api.TyInt))}})
	case "V":
		return m.pick("C", "A(1)")
	case "O":
		return m.pick("No", "Some(C)")
	case "T":
		return "T(1, 2, 3)"
	case "E":
		return "E { }"
	}
	return "n()"
}

func (m *maker) lambda(l []api.Field, result api.Type, depth int) string {
	var params []string
	for _, f := range l {
		params = append(params, f.Name+": "+m.typed(f.Type))
	}
	if len(l) > 0 && m.wrong() {
		params = append(params, params[0])
	}
	return "fun(" + strings.Join(params, ", ") + "): " + m.typed(result) + " = " + m.with(l, func() string { return m.expr(result, true, depth) })
}

// args makes the arguments of a call.
func (m *maker) args(l []api.Type, depth int) string {
	var words []string
	for _, t := range l {
		words = append(words, m.expr(t, true, depth))
	}
	if m.strange() {
		words = append(words, "nope")
	}
	return "(" + strings.Join(words, ", ") + ")"
}

// record makes a record, with its fields in some order.
func (m *maker) record(name string, depth int, fields []api.Field) string {
	return name + " { " + m.sets(fields, depth) + " }"
}

func (m *maker) sets(fields []api.Field, depth int) string {
	var words []string
	for _, k := range m.Perm(len(fields)) {
		words = append(words, fields[k].Name+" = "+m.expr(fields[k].Type, true, depth))
	}
	if m.wrong() && len(words) > 0 {
		words = append(words, words[0])
	}
	if m.strange() {
		words = append(words, "z = nope")
	}
	if m.wrong() && len(words) > 1 {
		words = words[1:]
	}
	return strings.Join(words, ", ")
}

// fieldsOf are those of the records in base.
func fieldsOf(record string) []api.Field {
	number := kind(api.TyInt)
	return map[string][]api.Field{
		"P": {{Name: "x", Type: number}, {Name: "y", Type: kind(api.TyList, number)}}, "N": {{Name: "p", Type: named("P")}, {Name: "v", Type: named("V")}, {Name: "r", Type: ref("W")}}, "E": {},
	}[record]
}

// alternative is a constructor of a variant in base.
type alternative struct {
	name string
	args []api.Type
}

func alternatives(variant string) []alternative {
	number := kind(api.TyInt)
	return map[string][]alternative{
		"V": {{"A", []api.Type{number}}, {"B", []api.Type{named("P"), kind(api.TyText)}}, {"C", nil}}, "O": {{"No", nil}, {"Some", []api.Type{named("V")}}}, "T": {{"T", []api.Type{number, number, number}}},
	}[variant]
}

// match makes a match, with some function making what follows the patterns.
func (m *maker) match(depth int, separator string, body func(k int) string) string {
	variant := m.pick("V", "V", "O", "T")
	s := "match (" + m.expr(named(variant), false, depth) + ") { "
	ctors := alternatives(variant)
	order := m.Perm(len(ctors))
	isPartial := m.chance(3)
	if isPartial {
		order = order[:m.Intn(len(order)+1)]
	}
	var arms []string
	for k, j := range order {
		var bound []api.Field
		var words []string
		for _, t := range ctors[j].args {
			if m.chance(3) {
				words = append(words, "_")
				continue
			}
			name := m.lower()
			words = append(words, name)
			bound = append(bound, api.Field{Name: name, Type: t})
		}
		pattern := ctors[j].name
		if m.strange() {
			words = append(words, "_")
		}
		if len(words) > 0 {
			pattern += "(" + strings.Join(words, ", ") + ")"
		}
		if m.wrong() {
			pattern = m.pick("Nope", "_", "C", "A", "No")
		}
		arms = append(arms, pattern+" "+m.with(bound, func() string { return body(k) }))
	}
	if isPartial && !m.wrong() {
		arms = append(arms, "_ "+body(len(order)))
	}
	if len(arms) == 0 {
		arms = []string{"_ " + body(0)}
	}
	return s + strings.Join(arms, separator+" ") + " }"
}

// special makes an expression of a form that belongs to the type, or nothing.
func (m *maker) special(t api.Type, known bool, depth int) string {
	number, text, truth := kind(api.TyInt), kind(api.TyText), kind(api.TyBool)
	call := func(name, s string) string {
		if m.isHidden(name) {
			return ""
		}
		return name + s
	}
	switch t.Kind {
	case api.TyInt:
		switch m.Intn(7) {
		case 0:
			return "-" + m.operand(number, true, depth)
		case 1, 2:
			return m.operand(number, true, depth) + m.pick("+", "-", "*", "/", "%") + m.operand(number, true, depth)
		case 3:
			return call("len", "("+m.expr(kind(api.TyList, m.storable(1)), false, depth)+")")
		case 4:
			return call("size", m.args([]api.Type{text}, depth))
		case 5:
			return call("f", m.args([]api.Type{number}, depth))
		}
		return m.operand(named("P"), false, depth) + ".x"
	case api.TyBool:
		switch m.Intn(4) {
		case 0:
			return "not " + m.operand(truth, true, depth)
		case 1:
			return m.operand(truth, true, depth) + m.pick(" and ", " or ") + m.operand(truth, true, depth)
		case 2:
			x := m.storable(2)
			return m.operand(x, false, depth) + m.pick("==", "!=") + m.operand(x, true, depth)
		}
		x := []api.Type{number, text}[m.Intn(2)]
		return m.operand(x, false, depth) + m.pick("<", "<=", ">", ">=") + m.operand(x, true, depth)
	case api.TyText:
		switch m.Intn(4) {
		case 0:
			return m.operand(text, true, depth) + "++" + m.operand(text, true, depth)
		case 1:
			return call("sub", m.args([]api.Type{text, number, number}, depth))
		case 2:
			return call("pick", m.args([]api.Type{text, text}, depth))
		}
		return call("show", m.args([]api.Type{number}, depth))
	case api.TyList:
		switch m.Intn(4) {
		case 0:
			return m.operand(t, known, depth) + "++" + m.operand(t, true, depth)
		case 1:
			return call("put", "("+m.expr(t, known, depth)+", "+m.expr(number, true, depth)+", "+m.expr(t.Args[0], true, depth)+")")
		case 2:
			return call("slice", "("+m.expr(t, known, depth)+", "+m.expr(number, true, depth)+", "+m.expr(number, true, depth)+")")
		}
		words := []string{m.expr(t.Args[0], known, depth)}
		for range m.Intn(3) {
			words = append(words, m.expr(t.Args[0], true, depth))
		}
		return "[" + strings.Join(words, ", ") + "]"
	case api.TyFun:
		var l []api.Field
		for _, param := range t.Args[:len(t.Args)-1] {
			f := api.Field{Name: m.lower(), Type: param}
			for fieldIndex(l, f.Name) >= 0 {
				f.Name = m.lower()
			}
			l = append(l, f)
		}
		return m.lambda(l, t.Args[len(t.Args)-1], depth)
	case api.TyNamed:
		if fields := fieldsOf(t.Name); fields != nil {
			if m.chance(2) || len(fields) == 0 {
				return m.record(t.Name, depth, fields)
			}
			changed := slices.Clone(fields)[m.Intn(len(fields)):]
			return m.operand(t, known, depth) + " with { " + m.sets(changed, depth) + " }"
		}
		ctors := alternatives(t.Name)
		c := ctors[m.Intn(len(ctors))]
		if len(c.args) == 0 {
			return c.name
		}
		return c.name + m.args(c.args, depth)
	}
	return ""
}

// block makes statements in braces.
func (m *maker) block(depth int) string {
	outer := m.env
	defer func() { m.env = outer }()
	var words []string
	for range m.Intn(4) {
		words = append(words, m.stmt(depth))
	}
	return "{ " + strings.Join(words, " ") + " }"
}

// bound adds a variable for the statements that follow.
func (m *maker) bound(name string, t api.Type) {
	m.env = append(slices.Clone(m.env), api.Field{Name: name, Type: t})
}

func (m *maker) stmt(depth int) string {
	number, text := kind(api.TyInt), kind(api.TyText)
	if m.strange() {
		return m.pick("nope = 1", "spawn Nope()", "spawn Q()", "do nope() then Yes", "do pay(1) then Nope", "do pay(1) then Unit", "do pay(1) then Txt", "do ask() then H", "send self Nope()", "send 1 Stop()", "for a in 1 { }", "after true send rw() Stop()", "send rw() Stop(1)", "fail 1", "let a = []", "if 1 { }")
	}
	switch m.Intn(12) {
	case 0, 1:
		t := m.someType()
		name := m.lower()
		s := "let " + name + " = " + m.expr(t, false, depth)
		m.bound(name, t)
		return s
	case 2, 3:
		if len(m.states) > 0 {
			v := m.states[m.Intn(len(m.states))]
			return v.Name + " = " + m.expr(v.Type, true, depth)
		}
	case 4:
		s := "if (" + m.expr(kind(api.TyBool), true, depth) + ") " + m.block(depth-1)
		if m.chance(2) {
			s += " else " + m.block(depth-1)
		}
		return s
	case 5:
		return m.match(depth, "", func(int) string { return m.block(depth - 1) })
	case 6:
		t := m.storable(1)
		name := m.lower()
		return "for " + name + " in (" + m.expr(kind(api.TyList, t), false, depth) + ") " + m.with([]api.Field{{Name: name, Type: t}}, func() string { return m.block(depth - 1) })
	case 7:
		return m.send(depth)
	case 8:
		return "after " + m.expr(number, true, depth) + " " + m.send(depth)
	case 9:
		actor, params := "Main", []api.Type(nil)
		if m.chance(2) {
			actor, params = "W", []api.Type{number, ref("Main")}
		}
		s := "spawn " + actor + m.args(params, depth)
		if m.chance(2) {
			s += " on " + m.expr(number, true, depth)
		}
		if m.chance(2) {
			name := m.lower()
			m.bound(name, ref(actor))
			return "let " + name + " = " + s
		}
		return s
	case 10:
		switch m.Intn(3) {
		case 0:
			return "do pay" + m.args([]api.Type{number}, depth) + " then Yes"
		case 1:
			return "do ask" + m.args(nil, depth) + " then Txt"
		}
		return "do tell" + m.args([]api.Type{text, kind(api.TyList, named("V"))}, depth) + " then Unit"
	}
	if m.chance(2) {
		return "stop"
	}
	return "fail " + m.expr(text, true, depth)
}

func (m *maker) send(depth int) string {
	switch m.Intn(3) {
	case 0:
		return "send " + m.expr(ref("W"), false, depth) + " Do" + m.args([]api.Type{kind(api.TyInt), kind(api.TyText)}, depth)
	case 1:
		return "send " + m.expr(ref("Main"), false, depth) + " Go" + m.args([]api.Type{kind(api.TyInt)}, depth)
	}
	return "send " + m.expr(ref("Q"), false, depth) + " Yes" + m.args([]api.Type{kind(api.TyBool)}, depth)
}

func (m *maker) fun(name string) string {
	l, result := m.fields(m.someType), m.someType()
	return "fun " + name + "(" + showFields(l) + "): " + types.Show(result) + " = " + m.with(l, func() string { return m.expr(result, true, 4) })
}

// actor makes the actor type Q with its state variables.
func (m *maker) actor(params, vars []api.Field) string {
	m.self = "Q"
	defer func() { m.self = "" }()
	var inits, handlers []string
	for _, v := range vars {
		inits = append(inits, "state "+v.Name+": "+types.Show(v.Type)+" = "+m.with(params, func() string { return m.expr(v.Type, true, 3) }))
	}
	on := map[string][]api.Field{"Yes": {{Name: "b", Type: kind(api.TyBool)}}, "Txt": {{Name: "t", Type: kind(api.TyText)}}, "Unit": {{Name: "len", Type: kind(api.TyUnit)}}, "H": m.stored()}
	for _, message := range []string{"Yes", "Txt", "Unit", "H"} {
		// A state variable is hidden by every local one.
		m.states, m.env = vars, slices.Clone(vars)
		handlers = append(handlers, "on "+message+"("+showFields(on[message])+") "+m.with(on[message], func() string { return m.block(3) }))
		m.states, m.env = nil, nil
	}
	return "actor Q(" + showFields(params) + ") { " + strings.Join(m.mixed(inits, handlers), " ") + " }"
}

// change makes a change with a number, which differs from others if nothing is strange.
func (m *maker) change(number int, params, vars []api.Field) string {
	if m.wrong() || m.wrong() || m.wrong() {
		return m.pick("drop Old", "drop Old", "move Nope to 1", "move W to 8", "move W to 8", "move Main to 9", "move Q to 100", "move W to 1", "convert actor Main() { }", "convert actor Nope() { }", "convert type Old(a: int) = a", "convert message Nope.A() = B()", "convert message Q.A() = Nope()", "convert message Q.A() = Yes()")
	}
	l := m.stored()
	fields := func() string {
		var words []string
		for _, f := range l {
			words = append(words, f.Name+": "+m.typed(f.Type))
		}
		if len(words) > 0 && m.wrong() {
			words = append(words, words[0])
		}
		return "(" + strings.Join(words, ", ") + ")"
	}
	switch m.Intn(6) {
	case 0:
		return fmt.Sprint("convert type Old", number, fields(), " = ", m.with(l, func() string { return m.expr(named(m.pick("P", "V", "O", "N")), false, 3) }))
	case 1:
		return fmt.Sprint("convert type Old.C", number, fields(), " = ", m.with(l, func() string { return m.expr(named("V"), false, 3) }))
	case 2:
		if number == 0 {
			return fmt.Sprint("convert actor Q", fields(), " { ", m.with(l, func() string { return m.sets(vars, 3) }), " }")
		}
	case 3:
		if number == 1 {
			return "move Q to " + m.pick("0", "3", "7")
		}
		return fmt.Sprint("drop Old", number)
	case 4:
		return fmt.Sprint("convert message Q.M", number, fields(), " = init", m.with(l, func() string { return m.args(typesOf(params), 3) }))
	}
	return fmt.Sprint("convert message W.M", number, fields(), " = Do", m.with(l, func() string { return m.args([]api.Type{kind(api.TyInt), kind(api.TyText)}, 3) }))
}

// mixed merges lists, each of which keeps its order.
func (m *maker) mixed(lists ...[]string) []string {
	var turns []int
	for k, l := range lists {
		for range l {
			turns = append(turns, k)
		}
	}
	m.Shuffle(len(turns), func(j, k int) { turns[j], turns[k] = turns[k], turns[j] })
	var all []string
	next := make([]int, len(lists))
	for _, k := range turns {
		all = append(all, lists[k][next[k]])
		next[k]++
	}
	return all
}

// source makes a program, or a patch file with changes.
func (m *maker) source(withChanges bool) string {
	var funs, changes []string
	for k := range m.Intn(3) {
		funs = append(funs, m.fun(fmt.Sprint("f", k)))
	}
	params, vars := m.stored(), m.stored()
	actor := m.actor(params, vars)
	if withChanges {
		for k := range m.Intn(6) {
			changes = append(changes, m.change(k, params, vars))
		}
	}
	return strings.Join(m.mixed([]string{base}, funs, []string{actor}, changes), "\n")
}
