package core

import (
	"retroact/api"
	"retroact/types"
)

// program is a program with what the names in it denote. Where a name is declared twice, it is not valid, whatever that name denotes.
type program struct {
	api.Prog
	types   map[string]api.Decl
	effects map[string]api.Effect
	// actors holds the parameters of the actor types.
	actors map[string][]api.Field
	// handlers holds the parameters of the handlers.
	handlers  map[message][]api.Field
	operators []operator
	commands  []command
}

// message is what a handler of an actor type handles.
type message struct{ actor, name string }

func open(p api.Prog) *program {
	q := &program{
		Prog:      p,
		types:     map[string]api.Decl{},
		effects:   map[string]api.Effect{},
		actors:    map[string][]api.Field{},
		handlers:  map[message][]api.Field{},
		operators: operators(),
		commands:  commands(),
	}
	for _, d := range p.Types {
		q.types[d.Name] = d
	}
	for _, f := range p.Effects {
		q.effects[f.Name] = f
	}
	for _, a := range p.Actors {
		q.actors[a.Name] = a.Params
		for _, h := range a.On {
			q.handlers[message{a.Name, h.Msg}] = h.Params
		}
	}
	return q
}

// declares reports whether types.Right holds for a type, without a search for every name.
func (p *program) declares(t api.Type) bool { return types.Formed(t) && p.hasNames(t) }

// stores reports whether a type is declared and storable.
func (p *program) stores(t api.Type) bool { return p.declares(t) && types.Storable(t) }

// hasNames reports whether all names in a type are declared.
func (p *program) hasNames(t api.Type) bool {
	found := true
	switch t.Kind {
	case api.TyNamed:
		_, found = p.types[t.Name]
	case api.TyRef:
		_, found = p.actors[t.Name]
	}
	return found && every(t.Args, p.hasNames)
}

// fieldsOf returns the fields of a type, if it is a record.
func (p *program) fieldsOf(t api.Type) ([]api.Field, bool) {
	d, found := p.types[t.Name]
	if !found || t.Kind != api.TyNamed || !d.Record {
		return nil, false
	}
	return d.Ctors[0].Fields, true
}

// ctorsOf returns the constructors of a type, if it is a variant.
func (p *program) ctorsOf(t api.Type) ([]api.Ctor, bool) {
	d, found := p.types[t.Name]
	return d.Ctors, found && t.Kind == api.TyNamed && !d.Record
}

func basic(kind int) api.Type { return api.Type{Kind: kind} }

func named(name string) api.Type { return api.Type{Kind: api.TyNamed, Name: name} }

func refTo(actor string) api.Type { return api.Type{Kind: api.TyRef, Name: actor} }

func listOf(element api.Type) api.Type {
	return api.Type{Kind: api.TyList, Args: []api.Type{element}}
}

func functionType(params []api.Field, result api.Type) api.Type {
	return api.Type{Kind: api.TyFun, Args: append(typesOf(params), result)}
}

func typesOf(l []api.Field) []api.Type {
	var all []api.Type
	for _, f := range l {
		all = append(all, f.Type)
	}
	return all
}

func every[T any](l []T, holds func(T) bool) bool {
	for _, x := range l {
		if !holds(x) {
			return false
		}
	}
	return true
}

func isIndex(n, length int) bool { return 0 <= n && n < length }
