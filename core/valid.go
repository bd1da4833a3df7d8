package core

import "retroact/api"

const (
	// root is the name of the actor type that every program must have.
	root = "Main"
	// maxSlots is the largest number of slots of a scope.
	maxSlots = 32768
	// maxRestarts is the largest number of restarts that an actor type may allow.
	maxRestarts = 100
)

// isValid checks the declarations first: the bodies may then rely on what they declare.
func (p *program) isValid() bool {
	return p.hasValidNames() && p.hasRoot() &&
		every(p.Types, p.isType) && areFinite(p.Types) &&
		every(p.Effects, p.isEffect) && every(p.Funs, p.isFunction) && every(p.Actors, p.isActor) &&
		every(p.Funs, p.hasBody) && every(p.Actors, p.hasCode)
}

// hasValidNames checks the names of all declarations and constructors.
func (p *program) hasValidNames() bool {
	var uppers, ctors, effects, funs []string
	for _, d := range p.Types {
		uppers = append(uppers, d.Name)
		for _, c := range d.Ctors {
			ctors = append(ctors, c.Name)
		}
	}
	for _, a := range p.Actors {
		uppers = append(uppers, a.Name)
	}
	for _, f := range p.Effects {
		effects = append(effects, f.Name)
	}
	for _, f := range p.Funs {
		if f.Name != "" {
			funs = append(funs, f.Name)
		}
	}
	return areNames(uppers, isUpper) && areNames(ctors, isUpper) && areNames(effects, isLower) && areNames(funs, isFunctionName)
}

func (p *program) hasRoot() bool {
	params, found := p.actors[root]
	return found && len(params) == 0
}

func (p *program) isType(d api.Decl) bool {
	if d.Record {
		return len(d.Ctors) == 1 && d.Ctors[0].Name == d.Name && p.areStored(d.Ctors[0].Fields)
	}
	return len(d.Ctors) > 0 && every(d.Ctors, p.isAlternative)
}

func (p *program) isAlternative(c api.Ctor) bool {
	return every(c.Fields, func(f api.Field) bool { return f.Name == "" && p.stores(f.Type) })
}

// areStored reports whether fields have distinct names and types that can be stored.
func (p *program) areStored(l []api.Field) bool {
	return areNames(fieldNames(l), isLower) && every(l, func(f api.Field) bool { return p.stores(f.Type) })
}

func (p *program) isEffect(f api.Effect) bool { return p.areStored(f.Params) && p.stores(f.Answer) }

// isFunction checks everything of a function but its name and its body.
func (p *program) isFunction(f api.Fun) bool {
	return areNames(fieldNames(f.Params), isParameterName) && every(typesOf(f.Params), p.declares) && p.declares(f.Result) && hasRoom(f.Params, f.Slots)
}

// isActor checks everything of an actor type but its name, its Inits and the bodies of its handlers.
func (p *program) isActor(a api.Actor) bool {
	var vars []api.Field
	for _, v := range a.Vars {
		vars = append(vars, api.Field{Name: v.Name, Type: v.Type})
	}
	var messages []string
	for _, h := range a.On {
		messages = append(messages, h.Msg)
	}
	return p.areStored(a.Params) && hasRoom(a.Params, a.Slots) && p.areStored(vars) &&
		areNames(messages, isUpper) && every(a.On, p.isHandler) && hasPolicy(a)
}

func (p *program) isHandler(h api.Handler) bool {
	return p.areStored(h.Params) && hasRoom(h.Params, h.Slots)
}

func hasPolicy(a api.Actor) bool {
	switch a.Policy {
	case api.PoStop, api.PoEscalate:
		return a.Most == 0
	case api.PoRestart:
		return 1 <= a.Most && a.Most <= maxRestarts
	}
	return false
}

// hasRoom reports whether a number of slots suffices for some parameters, and is within the limit.
func hasRoom(params []api.Field, slots int) bool { return len(params) <= slots && slots <= maxSlots }

func (p *program) hasBody(f api.Fun) bool {
	return p.newScope(f.Params, f.Slots).is(f.Body, f.Result)
}

// hasCode checks the Inits of an actor type and the bodies of its handlers.
func (p *program) hasCode(a api.Actor) bool {
	inits := p.newScope(a.Params, a.Slots)
	inits.actor = a.Name
	return every(a.Vars, func(v api.Var) bool { return inits.is(v.Init, v.Type) }) &&
		every(a.On, func(h api.Handler) bool {
			s := p.newScope(h.Params, h.Slots)
			s.actor, s.vars = a.Name, a.Vars
			return s.block(h.Body)
		})
}

func fieldNames(l []api.Field) []string {
	var all []string
	for _, f := range l {
		all = append(all, f.Name)
	}
	return all
}
