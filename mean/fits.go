package mean

import (
	"slices"

	"retroact/api"
	"retroact/value"
)

// maxKids bounds the number of children that an actor has spawned before an invocation.
const maxKids = 1 << 40

// isDeclared reports whether a valid program declares what a call invokes, with parameters and state variables to which the values of the call belong.
func isDeclared(p api.Prog, c api.Call) bool {
	a, found := actorOf(p, c.Actor)
	if !found {
		return false
	}
	if c.Msg == "" {
		return len(c.Vars) == 0 && value.All(p, c.Args, a.Params)
	}
	h, found := handlerOf(a, c.Msg)
	return found && value.All(p, c.Vars, variablesOf(a)) && value.All(p, c.Args, h.Params)
}

func actorOf(p api.Prog, name string) (api.Actor, bool) {
	return first(p.Actors, func(a api.Actor) bool { return a.Name == name })
}

func handlerOf(a api.Actor, msg string) (api.Handler, bool) {
	return first(a.On, func(h api.Handler) bool { return h.Msg == msg })
}

// first returns the first element for which a property holds, if there is one.
func first[T any](l []T, holds func(x T) bool) (x T, found bool) {
	k := slices.IndexFunc(l, holds)
	if k < 0 {
		return x, false
	}
	return l[k], true
}

func variablesOf(a api.Actor) []api.Field {
	var fields []api.Field
	for _, v := range a.Vars {
		fields = append(fields, api.Field{Name: v.Name, Type: v.Type})
	}
	return fields
}

// haveSpan reports whether a VSpan occurs in values at any depth.
func haveSpan(vs []api.Value) bool {
	return slices.ContainsFunc(vs, func(v api.Value) bool { return v.Kind == api.VSpan || haveSpan(v.L) })
}
