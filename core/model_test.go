package core_test

import (
	"crypto/sha256"
	"fmt"
	"reflect"
	"regexp"
	"slices"
	"strings"

	"retroact/api"
	"retroact/code"
	"retroact/types"
)

// serialized returns the serialization of P11.2, which has all fields in the order in which api declares them, also of a program that is not valid.
func serialized(x any) string {
	var out strings.Builder
	serialize(&out, reflect.ValueOf(x), func(any, string) int { return 0 })
	return out.String()
}

// serialize calls a function for what is mentioned; for a function, that returns what is added to its index.
func serialize(out *strings.Builder, v reflect.Value, mention func(what any, name string) int) {
	switch v.Kind() {
	case reflect.Int:
		out.WriteString(code.Num(int(v.Int())))
	case reflect.String:
		out.WriteString(code.Text(v.String()))
	case reflect.Bool:
		out.WriteString(code.Num(map[bool]int{true: 1}[v.Bool()]))
	case reflect.Slice:
		out.WriteString(code.Num(v.Len()))
		for k := range v.Len() {
			serialize(out, v.Index(k), mention)
		}
	case reflect.Struct:
		added := mentionedIn(v.Interface(), mention)
		for k := range v.NumField() {
			switch name := v.Type().Field(k).Name; name {
			case "N":
				out.WriteString(code.Int(int(v.Field(k).Int()) + added))
			case "M":
				out.WriteString(code.Int(int(v.Field(k).Int())))
			default:
				serialize(out, v.Field(k), mention)
			}
		}
	}
}

func mentionedIn(x any, mention func(what any, name string) int) int {
	switch x := x.(type) {
	case api.Type:
		if x.Kind == api.TyNamed {
			mention(nil, x.Name)
		}
	case api.Expr:
		switch x.Op {
		case api.XRec, api.XCtor:
			mention(nil, x.S)
		case api.XCall, api.XFun:
			return mention(x.N, "")
		}
	}
	return 0
}

// digest computes the digest of P11.3 of a valid program: it writes the bytes with the functions and types that were mentioned when they were written before, until nothing more is mentioned.
func digest(p api.Prog, actor string) api.Digest {
	a := p.Actors[slices.IndexFunc(p.Actors, func(a api.Actor) bool { return a.Name == actor })]
	var funs []int
	var names []string
	for {
		var mentionedFuns []int
		var mentionedNames []string
		mention := func(what any, name string) int {
			k, isFun := what.(int)
			if !isFun {
				if !slices.Contains(mentionedNames, name) {
					mentionedNames = append(mentionedNames, name)
				}
				return 0
			}
			if !slices.Contains(mentionedFuns, k) {
				mentionedFuns = append(mentionedFuns, k)
			}
			return slices.Index(mentionedFuns, k) - k
		}
		var out strings.Builder
		for _, part := range []any{a.Name, a.Params, a.Slots, a.Vars, a.On} {
			serialize(&out, reflect.ValueOf(part), mention)
		}
		for _, k := range funs {
			serialize(&out, reflect.ValueOf(p.Funs[k]), mention)
		}
		for _, name := range names {
			serialize(&out, reflect.ValueOf(p.Types[slices.IndexFunc(p.Types, func(d api.Decl) bool { return d.Name == name })]), mention)
		}
		if slices.Equal(funs, mentionedFuns) && slices.Equal(names, mentionedNames) {
			return sha256.Sum256([]byte(out.String()))
		}
		funs, names = mentionedFuns, mentionedNames
	}
}

// problem returns why a program is not valid by the definitions of chapter 11, or nothing.
func problem(p api.Prog) (message string) {
	defer func() {
		if x := recover(); x != nil {
			broken, ok := x.(violation)
			if !ok {
				panic(x)
			}
			message = string(broken)
		}
	}()
	m := model{p}
	m.types()
	for _, f := range p.Effects {
		m.params(f.Params, lowerName, true)
		m.declared(f.Answer, true)
	}
	m.distinct(len(p.Effects), func(k int) string { return p.Effects[k].Name }, lowerName)
	m.functions()
	m.actors()
	m.bodies()
	return ""
}

// violation says what a program violates.
type violation string

func must(ok bool, message ...any) {
	if !ok {
		panic(violation(fmt.Sprint(message...)))
	}
}

var (
	upperName = regexp.MustCompile(`^[A-Z][A-Za-z0-9_]*\z`)
	lowerWord = regexp.MustCompile(`^[a-z][A-Za-z0-9_]*\z`)
)

const (
	reservedWords  = " record variant effect fun actor restart escalate state on let in if then else match with and or not true false self for send after spawn do stop fail ref int bool text unit "
	primitiveWords = " len at put slice size sub show "
)

func isUpper(s string) bool { return upperName.MatchString(s) }

func lowerName(s string) bool {
	return lowerWord.MatchString(s) && !strings.Contains(reservedWords, " "+s+" ")
}

type model struct{ p api.Prog }

func (m model) distinct(count int, name func(k int) string, isName func(s string) bool) {
	for k := range count {
		must(isName(name(k)), "the name ", name(k))
		for j := range k {
			must(name(j) != name(k), "twice ", name(k))
		}
	}
}

func (m model) declared(t api.Type, storable bool) {
	must(types.Right(m.p, t) && (!storable || types.Storable(t)), "the type ", t)
}

func (m model) params(l []api.Field, isName func(s string) bool, storable bool) {
	m.distinct(len(l), func(k int) string { return l[k].Name }, isName)
	for _, f := range l {
		m.declared(f.Type, storable)
	}
}

func (m model) types() {
	var names, ctors []string
	for _, d := range m.p.Types {
		names = append(names, d.Name)
		must(len(d.Ctors) > 0, "no constructor of ", d.Name)
		must(!d.Record || len(d.Ctors) == 1 && d.Ctors[0].Name == d.Name, "the record ", d.Name)
		for _, c := range d.Ctors {
			ctors = append(ctors, c.Name)
			if d.Record {
				m.params(c.Fields, lowerName, true)
			}
			for _, f := range c.Fields {
				m.declared(f.Type, true)
				must(d.Record || f.Name == "", "the name ", f.Name, " in a variant")
			}
		}
	}
	for _, a := range m.p.Actors {
		names = append(names, a.Name)
	}
	for _, l := range [][]string{names, ctors} {
		m.distinct(len(l), func(k int) string { return l[k] }, isUpper)
	}
	finite := map[string]bool{}
	for range m.p.Types {
		for _, d := range m.p.Types {
			finite[d.Name] = finite[d.Name] || slices.ContainsFunc(d.Ctors, func(c api.Ctor) bool {
				return !slices.ContainsFunc(c.Fields, func(f api.Field) bool { return f.Type.Kind == api.TyNamed && !finite[f.Type.Name] })
			})
		}
	}
	for _, d := range m.p.Types {
		must(finite[d.Name], d.Name, " is not finite")
	}
}

func (m model) functions() {
	var names []string
	for _, f := range m.p.Funs {
		if f.Name != "" {
			names = append(names, f.Name)
		}
		m.params(f.Params, func(s string) bool { return s == "self" || lowerName(s) }, false)
		m.declared(f.Result, false)
	}
	m.distinct(len(names), func(k int) string { return names[k] }, func(s string) bool {
		return lowerName(s) && !strings.Contains(primitiveWords, " "+s+" ")
	})
}

func (m model) actors() {
	hasRoot := false
	for _, a := range m.p.Actors {
		hasRoot = hasRoot || a.Name == "Main" && len(a.Params) == 0
		m.params(a.Params, lowerName, true)
		m.distinct(len(a.Vars), func(k int) string { return a.Vars[k].Name }, lowerName)
		for _, v := range a.Vars {
			m.declared(v.Type, true)
		}
		m.distinct(len(a.On), func(k int) string { return a.On[k].Msg }, isUpper)
		for _, h := range a.On {
			m.params(h.Params, lowerName, true)
		}
		must(a.Policy == api.PoStop && a.Most == 0 || a.Policy == api.PoRestart && a.Most > 0 && a.Most <= 100 || a.Policy == api.PoEscalate && a.Most == 0, "the policy of ", a.Name)
	}
	must(hasRoot, "no Main")
}

func (m model) bodies() {
	for _, f := range m.p.Funs {
		place{model: m}.of(f.Params, f.Slots).is(f.Body, f.Result)
	}
	for _, a := range m.p.Actors {
		inits := place{model: m, self: []api.Type{{Kind: api.TyRef, Name: a.Name}}}.of(a.Params, a.Slots)
		for _, v := range a.Vars {
			inits.is(v.Init, v.Type)
		}
		for _, h := range a.On {
			body := place{model: m, self: inits.self, actor: a}.of(h.Params, h.Slots)
			body.block(h.Body)
		}
	}
}

// binding is a slot that is bound.
type binding struct {
	slot int
	t    api.Type
}

// place is a scope. It is never changed: a scope with more bindings is another one.
type place struct {
	model
	slots int
	bound []binding
	// self is the type of self, if there is one.
	self []api.Type
	// actor has the state variables and the handlers.
	actor api.Actor
}

func (s place) of(params []api.Field, slots int) place {
	must(slots >= len(params) && slots <= 32768, "slots ", slots)
	s.slots = slots
	return s.withAll(0, typesOf(params))
}

func typesOf(l []api.Field) []api.Type {
	var all []api.Type
	for _, f := range l {
		all = append(all, f.Type)
	}
	return all
}

func (s place) with(slot int, t api.Type) place {
	must(slot >= 0 && slot < s.slots, "slot ", slot)
	must(!slices.ContainsFunc(s.bound, func(b binding) bool { return b.slot == slot }), "slot ", slot, " is bound")
	s.bound = append(slices.Clip(s.bound), binding{slot, t})
	return s
}

func (s place) withAll(first int, l []api.Type) place {
	for k, t := range l {
		s = s.with(first+k, t)
	}
	return s
}
