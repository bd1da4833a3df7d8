package value

import (
	"slices"

	"retroact/api"
	"retroact/types"
)

// belongs reports whether a valid value belongs to a type.
func belongs(p api.Prog, v api.Value, t api.Type) bool { return types.Right(p, t) && matches(p, v, t) }

// matches reports whether a valid value belongs to a type that is valid in p.
func matches(p api.Prog, v api.Value, t api.Type) bool {
	switch t.Kind {
	case api.TyUnit:
		return v.Kind == api.VUnit
	case api.TyBool:
		return v.Kind == api.VBool
	case api.TyInt:
		return v.Kind == api.VInt || v.Kind == api.VSpan
	case api.TyText:
		return v.Kind == api.VText
	case api.TyList:
		return v.Kind == api.VList && !slices.ContainsFunc(v.L, func(x api.Value) bool { return !matches(p, x, t.Args[0]) })
	case api.TyNamed:
		return isOfDeclared(p, v, t.Name)
	case api.TyRef:
		return v.Kind == api.VRef && v.T == t.Name
	case api.TyFun:
		return v.Kind == api.VFun && isClosure(p, v, t.Args)
	}
	return false
}

// isOfDeclared reports whether a valid value belongs to the declared type of a name that p has.
func isOfDeclared(p api.Prog, v api.Value, name string) bool {
	k, _ := types.Find(p, name)
	d := p.Types[k]
	kind := api.VVar
	if d.Record {
		kind = api.VRec
	}
	// The N of a VRec is zero, which is the index of its only constructor.
	return v.Kind == kind && v.T == name && v.N < len(d.Ctors) && allBelong(p, v.L, d.Ctors[v.N].Fields)
}

func allBelong(p api.Prog, vs []api.Value, fs []api.Field) bool {
	return slices.EqualFunc(vs, fs, func(v api.Value, f api.Field) bool { return belongs(p, v, f.Type) })
}

// isClosure reports whether a VFun belongs to the function type of some Args.
func isClosure(p api.Prog, v api.Value, args []api.Type) bool {
	if v.N >= len(p.Funs) {
		return false
	}
	f := p.Funs[v.N]
	last := len(args) - 1
	captured := len(f.Params) - last
	if captured != len(v.L) {
		return false
	}
	return allBelong(p, v.L, f.Params[:captured]) && types.Same(f.Result, args[last]) &&
		slices.EqualFunc(f.Params[captured:], args[:last], func(f api.Field, t api.Type) bool { return types.Same(f.Type, t) })
}
