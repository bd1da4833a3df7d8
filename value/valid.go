package value

import (
	"retroact/api"
	"retroact/types"
)

// maxCtor bounds the index of a constructor.
const maxCtor = 4096

// every reports whether a property holds for all nodes of a value, and ends at the first one for which it does not.
func every(v api.Value, holds func(v api.Value) bool) bool {
	if !holds(v) {
		return false
	}
	for _, x := range v.L {
		if !every(x, holds) {
			return false
		}
	}
	return true
}

// isNode reports whether a node has a form of a valid one, whatever its elements are.
func isNode(v api.Value) bool {
	rest, ok := v, true
	switch v.Kind {
	case api.VUnit:
	case api.VBool:
		rest.N, ok = 0, v.N == 0 || v.N == 1
	case api.VInt:
		rest.N, ok = 0, inRange(v.N)
	case api.VText:
		rest.S, ok = "", len(v.S) <= api.MaxText
	case api.VList:
		rest.L, ok = nil, len(v.L) <= api.MaxList
	case api.VRec:
		rest.T, rest.L, ok = "", nil, isTypeName(v.T)
	case api.VVar:
		rest.T, rest.N, rest.L, ok = "", 0, nil, isTypeName(v.T) && 0 <= v.N && v.N <= maxCtor
	case api.VRef:
		rest.T, rest.S, ok = "", "", isTypeName(v.T) && Path(v.S)
	case api.VFun:
		rest.N, rest.L, ok = 0, nil, 0 <= v.N && v.N <= api.MaxNum
	case api.VSpan:
		rest.N, rest.M, ok = 0, 0, inRange(v.N) && inRange(v.M) && v.N < v.M
	default:
		ok = false
	}
	// What is left of the node are the fields that its form does not mention.
	return ok && rest.T == "" && rest.N == 0 && rest.M == 0 && rest.S == "" && len(rest.L) == 0
}

func inRange(n int) bool { return -api.MaxNum <= n && n <= api.MaxNum }

func isTypeName(name string) bool {
	return types.Formed(api.Type{Kind: api.TyNamed, Name: name})
}

func isPlain(v api.Value) bool {
	return Right(v) && every(v, func(v api.Value) bool { return v.Kind != api.VFun && v.Kind != api.VSpan })
}
