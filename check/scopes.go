package check

import (
	"slices"

	"retroact/api"
	"retroact/types"
)

// selfName is that of the parameter by which a closure captures the reference to its actor. No other binding can have it.
const selfName = "self"

// primitives are the names of the primitive functions, at their numbers.
var primitives = [...]string{
	api.PLen: "len", api.PAt: "at", api.PPut: "put", api.PSlice: "slice",
	api.PSize: "size", api.PSub: "sub", api.PShow: "show",
}

// scope is where an expression or a statement stands: what names denote there.
type scope struct {
	*checker
	// locals are the local bindings in scope, at their slots.
	locals []api.Field
	// slots is the maximum number of locals so far.
	slots int
	// actor is the actor type whose code it is, and empty if it is that of a function.
	actor string
	// vars are the state variables that may be used.
	vars []api.Var
}

// newScope returns the scope of a function with some parameters.
func (c *checker) newScope(params []api.Field) *scope {
	s := &scope{checker: c}
	for _, f := range params {
		s.bind(f.Name, f.Type)
	}
	return s
}

// bind makes a local binding and returns its slot.
func (s *scope) bind(name string, t api.Type) int {
	s.locals = append(s.locals, api.Field{Name: name, Type: t})
	s.slots = max(s.slots, len(s.locals))
	return len(s.locals) - 1
}

// leave ends the scopes of all local bindings but a number of outer ones.
func (s *scope) leave(outer int) { s.locals = s.locals[:outer] }

// denoted returns what a name denotes as an expression with its type, but a primitive function as an XPrim without one.
func (s *scope) denoted(name string) (x api.Expr, t api.Type, ok bool) {
	for slot, f := range slices.Backward(s.locals) {
		if f.Name == name {
			return api.Expr{Op: api.XLocal, N: slot}, f.Type, true
		}
	}
	for k, v := range s.vars {
		if v.Name == name {
			return api.Expr{Op: api.XState, N: k}, v.Type, true
		}
	}
	if name == selfName {
		return api.Expr{Op: api.XSelf}, api.Type{Kind: api.TyRef, Name: s.actor}, s.actor != ""
	}
	for k, f := range s.out.Prog.Funs {
		if f.Name == name {
			return api.Expr{Op: api.XFun, N: k}, functionType(f.Params, f.Result), true
		}
	}
	for k, word := range primitives {
		if word == name {
			return api.Expr{Op: api.XPrim, N: k}, api.Type{}, true
		}
	}
	return api.Expr{}, api.Type{}, false
}

// fieldsOf returns the fields of a type, if it is a record.
func (s *scope) fieldsOf(t api.Type) ([]api.Field, bool) {
	d, ok := s.declaration(t)
	if !ok || !d.Record {
		return nil, false
	}
	return d.Ctors[0].Fields, true
}

// ctorsOf returns the constructors of a type, if it is a variant.
func (s *scope) ctorsOf(t api.Type) ([]api.Ctor, bool) {
	d, ok := s.declaration(t)
	return d.Ctors, ok && !d.Record
}

func (s *scope) declaration(t api.Type) (api.Decl, bool) {
	k, ok := types.Find(s.out.Prog, t.Name)
	if !ok || t.Kind != api.TyNamed {
		return api.Decl{}, false
	}
	return s.out.Prog.Types[k], true
}

func basic(kind int) api.Type { return api.Type{Kind: kind} }

func named(name string) api.Type { return api.Type{Kind: api.TyNamed, Name: name} }

func listOf(element api.Type) api.Type {
	return api.Type{Kind: api.TyList, Args: []api.Type{element}}
}

func functionType(params []api.Field, result api.Type) api.Type {
	return api.Type{Kind: api.TyFun, Args: append(typesOf(params), result)}
}

func typesOf(l []api.Field) []api.Type {
	var all []api.Type
	for _, f := range l {
		all = append(all, f.Type)
	}
	return all
}
