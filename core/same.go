package core

import (
	"slices"

	"retroact/api"
	"retroact/types"
)

func sameProgram(a, b api.Prog) bool {
	return slices.EqualFunc(a.Types, b.Types, sameDecl) && slices.EqualFunc(a.Effects, b.Effects, sameEffect) &&
		slices.EqualFunc(a.Funs, b.Funs, sameFun) && slices.EqualFunc(a.Actors, b.Actors, sameActor)
}

func sameDecl(a, b api.Decl) bool {
	return a.Name == b.Name && a.Record == b.Record && slices.EqualFunc(a.Ctors, b.Ctors, sameCtor)
}

func sameCtor(a, b api.Ctor) bool { return a.Name == b.Name && sameFields(a.Fields, b.Fields) }

func sameFields(a, b []api.Field) bool { return slices.EqualFunc(a, b, sameField) }

func sameField(a, b api.Field) bool { return a.Name == b.Name && types.Same(a.Type, b.Type) }

func sameEffect(a, b api.Effect) bool {
	return a.Name == b.Name && sameFields(a.Params, b.Params) && types.Same(a.Answer, b.Answer)
}

func sameFun(a, b api.Fun) bool {
	return a.Name == b.Name && sameFields(a.Params, b.Params) && types.Same(a.Result, b.Result) && a.Slots == b.Slots && sameExpr(a.Body, b.Body)
}

func sameActor(a, b api.Actor) bool {
	return a.Name == b.Name && sameFields(a.Params, b.Params) && a.Slots == b.Slots && a.Policy == b.Policy && a.Most == b.Most &&
		slices.EqualFunc(a.Vars, b.Vars, sameVar) && slices.EqualFunc(a.On, b.On, sameHandler)
}

func sameVar(a, b api.Var) bool {
	return a.Name == b.Name && types.Same(a.Type, b.Type) && sameExpr(a.Init, b.Init)
}

func sameHandler(a, b api.Handler) bool {
	return a.Msg == b.Msg && sameFields(a.Params, b.Params) && a.Slots == b.Slots && sameBlock(a.Body, b.Body)
}

func sameBlock(a, b []api.Stmt) bool { return slices.EqualFunc(a, b, sameStmt) }

func sameStmt(a, b api.Stmt) bool {
	return a.Op == b.Op && a.N == b.N && a.M == b.M && a.S == b.S && a.T == b.T && slices.EqualFunc(a.Xs, b.Xs, sameExpr) &&
		sameBlock(a.Then, b.Then) && sameBlock(a.Else, b.Else) && sameBlock(a.Arms, b.Arms)
}

func sameExpr(a, b api.Expr) bool {
	return a.Op == b.Op && a.N == b.N && a.M == b.M && a.S == b.S && slices.EqualFunc(a.Kids, b.Kids, sameExpr)
}
