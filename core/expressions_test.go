package core_test

import (
	"math"
	"slices"
	"strings"
	"testing"

	"retroact/api"
	"retroact/core"
)

// someTypes are types that the expressions of the tables may have.
func someTypes() []string {
	return []string{
		"unit", "bool", "int", "text", "[int]", "[text]", "[[int]]", "[V]", "[unit]", "[fun(int): int]", "P", "E", "N", "V", "O", "ref Main", "ref W",
		"fun(int, text): bool", "fun(int): int", "fun(): int", "fun(text): int", "fun(): V", "fun(): ref Main", "fun(): bool",
		"fun(ref Main, int, text): bool", "fun(fun(int, text): bool, [int]): bool", "fun([int]): bool",
	}
}

// inFunction returns a program in which an expression, which must be a unit, is the body of a function with parameters in the slots 0 to 9. The slots 10 to 12 are not bound.
func inFunction(p api.Prog, x api.Expr) api.Prog {
	params := fields("a", "int", "b", "text", "c", "[int]", "d", "P", "e", "V", "f", "fun(int, text): bool", "g", "ref W", "h", "bool", "i", "unit", "j", "N")
	p.Funs = append(slices.Clip(p.Funs), api.Fun{Name: "body", Params: params, Result: typ("unit"), Slots: 13, Body: x})
	return p
}

// taken returns an expression that is a unit exactly if x is of a type, and the program with the function of which it is the call.
func taken(p api.Prog, x api.Expr, t api.Type) (api.Prog, api.Expr) {
	p.Funs = append(slices.Clip(p.Funs), api.Fun{Name: "taking", Params: []api.Field{{Name: "a", Type: t}}, Result: typ("unit"), Slots: 1, Body: expr("unit")})
	return p, api.Expr{Op: api.XCall, N: len(p.Funs) - 1, Kids: []api.Expr{x}}
}

// expecting is a program that is valid exactly if x is of a type.
func expecting(x api.Expr, form string) api.Prog {
	p, y := taken(base(), x, typ(form))
	return inFunction(p, y)
}

// inferring is a program that is valid exactly if x has a type without an expected one.
func inferring(x api.Expr, form string) api.Prog {
	p, y := taken(base(), expr("local12"), typ(form))
	return inFunction(p, api.Expr{Op: api.XLet, N: 12, Kids: []api.Expr{x, y}})
}

// ignoring is a program that is valid exactly if x has any type without an expected one.
func ignoring(x api.Expr) api.Prog {
	return inFunction(base(), api.Expr{Op: api.XLet, N: 12, Kids: []api.Expr{x, expr("unit")}})
}

// typed returns the types that an expression has without an expected type, and those that it is of, separated by semicolons.
func typed(x api.Expr) (has, is string) {
	var inferred, expected []string
	for _, form := range someTypes() {
		if core.Right(inferring(x, form)) {
			inferred = append(inferred, form)
		}
		if core.Right(expecting(x, form)) {
			expected = append(expected, form)
		}
	}
	return strings.Join(inferred, "; "), strings.Join(expected, "; ")
}

// row contains expressions with the types that they have without an expected type, and those that they are of.
type row struct {
	has, is string
	xs      []string
}

// rows contains expressions of each operator that may be in a function.
func rows() []row {
	same := func(form string, xs ...string) row { return row{form, form, xs} }
	long := strings.Repeat("x", 4096)
	return slices.Concat([]row{
		same("unit", "unit", "local8"),
		same("bool", "bool0", "bool1", "local7", "and(local7 bool0)", "or(bool1 local7)", "not(local7)", "not(not(bool1))"),
		same("int", "int", "int1", "int-1", "int-9007199254740992", "int9007199254740992", "local0", "neg(local0)", "neg(neg(int1))"),
		same("int", "add(int1 local0)", "minus(int1 int2)", "mul(int1 int2)", "div(int1 int2)", "mod(int1 int0)"),
		same("text", "text", "text'\x00\xff\n\"'", "text'"+long+"'", "local1", "cat(text'a' local1)", "cat(local1 cat(local1 text))"),
		same("[int]", "local2", "list(int1)", "list(int1 local0 int3)", "cat(local2 list(int1))", "cat(local2 list)"),
		same("[text]", "list(local1)"), same("[V]", "list(local4 ctor2'V')"), same("[unit]", "list(unit)"),
		same("[[int]]", "list(local2 list)", "list(list(int1) list local2)"), same("[fun(int): int]", "list(fun0 fun0)", "cat(list(fun0) list)"),
		same("P", "local3", "rec'P'(int1 list)", "rec'P'(local0 local2)", "get0(local9)"), same("E", "rec'E'"), same("N", "local9", "rec'N'(local3 local4)"),
		same("int", "get0(local3)", "get0(rec'P'(int1 list))", "get0(get0(local9))"), same("[int]", "get1(local3)"), same("V", "get1(local9)"),
		same("P", "with0(local3 int1)", "with1(local3 list)", "with0(with1(local3 local2) local0)", "with0(rec'P'(int1 list) int2)"), same("N", "with0(local9 local3)", "with1(local9 local4)"),
		same("V", "local4", "ctor0'V'(int1)", "ctor1'V'(local3 text)", "ctor2'V'"), same("O", "ctor0'O'"),
		same("bool", "eq(local0 int1)", "ne(local0 int1)", "eq(local4 ctor2'V')", "eq(local2 list)", "ne(local3 local3)", "eq(local6 local6)", "eq(unit unit)", "eq(bool0 local7)", "eq(local9 local9)"),
		same("bool", "lt(int1 int2)", "le(int1 int2)", "gt(int1 int2)", "ge(int1 int2)", "lt(text local1)", "le(text local1)", "gt(text local1)", "ge(text local1)"),
		same("int", "if(bool1 int1 int2)", "if(local7 local0 neg(int1))"), same("V", "if(bool0 local4 ctor2'V')"), same("[int]", "if(bool0 local2 list)"), same("fun(int, text): bool", "if(bool0 local5 local5)"),
		same("int", "let10(int1 local10)", "let12(text int1)", "let11(int1 let10(text local11))", "let10(let10(int1 local10) local10)", "let10(fun0 apply(local10 int1))"),
		same("int", "let11(int1 let10(local11 add(local10 local11)))", "add(let10(int1 local10) let10(int2 local10))"), same("text", "let10(local1 cat(local10 local10))", "let10(int1 let11(text local11))"),
		same("int", "call0(int1)", "call0(call0(local0))"), same("bool", "call1(local5 local2)", "call1(local5 list)", "call1(fun3(call4) local2)"), same("V", "call2"), same("ref Main", "call4"),
		same("fun(int): int", "fun0"), same("fun(): int", "fun0(int1)"), same("fun(): V", "fun2"), same("ref W", "local6"),
		same("fun(fun(int, text): bool, [int]): bool", "fun1"), same("fun([int]): bool", "fun1(local5)"),
		same("fun(ref Main, int, text): bool", "fun3"), same("fun(int, text): bool", "local5", "fun3(call4)"),
		same("fun(): ref Main", "fun4"),
		same("bool", "apply(local5 int1 text)", "apply(fun1 local5 list)", "apply(fun1(local5) list)", "apply(fun1(local5 local2))"), same("int", "apply(fun0 int1)", "apply(fun0(int1))"), same("V", "apply(fun2)"),
		same("int", "prim1(local2)", "prim1(list(local4))", "prim2(local2 int1)", "prim5(local1)"), same("text", "prim2(list(text) int0)", "prim6(text int0 int1)", "prim7(int1)"),
		same("[int]", "prim3(local2 int0 int1)", "prim4(local2 int0 int1)", "prim2(list(local2) int0)"), same("V", "prim2(list(local4) int0)"),
		same("[[int]]", "prim3(list(local2) int0 list)", "prim4(list(local2) int0 int1)"), same("fun(int): int", "prim2(list(fun0) int0)"),
	}, directed(), matches())
}

// directed contains expressions that have a type only where one is expected.
func directed() []row {
	lists := "[int]; [text]; [[int]]; [V]; [unit]; [fun(int): int]"
	return []row{
		{"", lists, []string{"list", "if(bool1 list list)", "cat(list list)", "cat(cat(list list) list)", "let10(int1 list)", "match(local4 arm-1(list))", "prim4(list int0 int1)"}},
		{"", "[[int]]", []string{"list(list)", "list(list local2)", "list(list list local2)", "prim3(list int0 list)", "prim3(list(list) int0 local2)", "prim3(list int0 local2)"}},
		{"", "[int]", []string{"if(bool1 list local2)", "cat(list local2)", "cat(list cat(local2 list))", "match(local4 arm0/10(list) arm-1(local2))", "prim3(list int0 int1)", "prim4(if(bool1 list local2) int0 int1)"}},
		{"", "[V]", []string{"prim3(list int0 ctor2'V')", "prim4(prim3(list int0 local4) int0 int1)"}},
	}
}

// matches contains matches with each sort of arm.
func matches() []row {
	same := func(form string, xs ...string) row { return row{form, form, xs} }
	return []row{
		same("int", "match(local4 arm0/10(local10) arm1/10(local0) arm2/10(int2))", "match(local4 arm2/10(int2) arm1/11(int1) arm0/12(local12))", "match(local4 arm1/11(get0(local11)) arm-1(int1))"),
		same("int", "match(local4 arm-1(int1))", "match(local4 arm-1/13(int1))", "match(local4 arm2(int1) arm-1/8(int2))", "match(local4 arm2/13(int1) arm-1/13(int2))", "match(ctor0'O' arm0(int1))"),
		same("int", "match(local4 arm0/10(int1) arm1/10(int2) arm2/10(int3) arm-1/10(int4))", "match(get1(local9) arm0/10(let11(local10 local11)) arm-1(let10(int1 local10)))"),
		same("int", "match(match(local4 arm0/10(local4) arm-1(ctor0'V'(int1))) arm0/10(local10) arm-1(int1))", "match(local4 arm0/10(match(local4 arm0/11(add(local10 local11)) arm-1(local10))) arm-1(int0))"),
		same("int", "add(match(local4 arm0/10(local10) arm-1(int1)) match(local4 arm1/10(int1) arm-1(let10(int1 local10))))"),
		same("text", "match(local4 arm1/10(cat(local11 text)) arm0/10(text) arm2(local1))"), same("V", "match(local4 arm-1(local4))"), same("[int]", "match(local4 arm0/10(list(local10)) arm-1(list))"),
	}
}

// P11.1, P11.5: each expression of the table has exactly one type without an expected type, or none, and is of exactly the types that are given.
func TestExpressions(t *testing.T) {
	for _, r := range rows() {
		for _, s := range r.xs {
			if has, is := typed(expr(s)); has != r.has || is != r.is {
				t.Errorf("%s: has %q, is %q; want %q, %q", s, has, is, r.has, r.is)
			}
			form, _, _ := strings.Cut(r.is, "; ")
			right(t, expecting(expr(s), form), true, s)
			right(t, inferring(expr(s), form), r.has != "", s)
			right(t, ignoring(expr(s)), r.has != "", s)
		}
	}
}

// invalid contains expressions that have no type in a function, whatever type is expected.
func invalid() []string {
	l := []string{
		"bool2", "bool-1", "int9007199254740993", "int-9007199254740993", "int9223372036854775807", "int-9223372036854775808", "text'" + strings.Repeat("x", 4097) + "'",
		"local-1", "local10", "local12", "local13", "local32768", "local9223372036854775807", "local-9223372036854775808", "state", "state-1", "state1", "self",
		"list(int1 text)", "list(text int1)", "list(list int1)", "list(int1 list)", "list(local10)", "list(int1 local10)", "list(arm-1(int1))", "list(int1 self)", "list(local2 list(text))", "list(fun0 fun2)",
		"rec", "rec'V'", "rec'Nope'", "rec'O'", "rec'Main'", "rec'A'", "rec'p'", "rec'P'", "rec'P'(int1)", "rec'P'(list int1)", "rec'P'(text list)", "rec'P'(int1 list(text))", "rec'P'(int1 list list)", "rec'E'(int1)", "rec'N'(local4 local3)",
		"get-1(local3)", "get2(local3)", "get9223372036854775807(local3)", "get(local4)", "get(local0)", "get(local2)", "get(local6)", "get(rec'E')", "get(ctor0'V'(int1))", "get(local10)", "get(list)",
		"with-1(local3 int1)", "with2(local3 int1)", "with0(local3 text)", "with1(local3 int1)", "with0(local4 int1)", "with0(int1 int1)", "with0(rec'E' int1)", "with0(ctor0'V'(int1) int1)", "with0(local6 int1)", "with0(local10 int1)", "with0(local3 local10)",
		"ctor-1'V'", "ctor3'V'", "ctor9223372036854775807'V'", "ctor0'P'(int1 list)", "ctor0'E'", "ctor0'Nope'", "ctor0'A'(int1)", "ctor0'Main'", "ctor0", "ctor0'V'", "ctor0'V'(text)", "ctor0'V'(int1 int1)", "ctor1'V'(local3)", "ctor1'V'(text local3)", "ctor2'V'(unit)",
		"if(int1 int1 int2)", "if(bool1 int1 text)", "if(bool1 text int1)", "if(local10 int1 int1)", "if(bool1 list int1)", "if(bool1 local2 int1)", "if(bool1 int1 local10)", "if(bool1 local10 int1)", "if(bool1 fun0 fun2)",
		"cat(int1 int1)", "cat(text int1)", "cat(int1 text)", "cat(text list)", "cat(list text)", "cat(local2 text)", "cat(local2 list(text))", "cat(local3 local3)", "cat(local2 local0)", "cat(local0 local2)", "cat(local5 local5)", "cat(local10 text)", "cat(text local10)",
		"let-1(int1 int1)", "let13(int1 int1)", "let0(int1 int1)", "let9(int1 int1)", "let9223372036854775807(int1 int1)", "let-9223372036854775808(int1 int1)", "let10(list int1)", "let10(local11 int1)", "let10(local10 int1)", "let10(int1 let10(int1 int1))",
		"let10(int1 local11)", "add(let10(int1 local10) local10)", "add(let10(int1 local10) let11(int1 local10))", "let10(let11(int1 local11) local11)", "let10(int1 let11(int1 let10(int1 int1)))",
		"call-1", "call7", "call9223372036854775807(int1)", "call0", "call0(text)", "call0(int1 int1)", "call1(local5)", "call1(local2 local5)", "call1(fun0 local2)", "call2(unit)", "call3(int1 int1 text)", "call0(local10)",
		"fun-1", "fun7", "fun-1(int1)", "fun9223372036854775807", "fun0(text)", "fun0(int1 int1)", "fun1(local2)", "fun2(unit)", "fun1(local5 text)", "fun0(local10)", "fun0(list)",
		"apply", "apply(int1)", "apply(local2 int0)", "apply(local5)", "apply(local5 int1)", "apply(local5 text int1)", "apply(local5 int1 text int1)", "apply(local4)", "apply(local6 int1)", "apply(fun2 unit)", "apply(fun0(int1) int1)", "apply(local10)", "apply(local5 int1 local10)",
		"prim0(local2)", "prim-1(local2)", "prim8(int1)", "prim9223372036854775807(text)", "prim0", "prim0(int1)", "prim8(local2 int1)",
		"prim1", "prim1(text)", "prim1(list)", "prim1(local0)", "prim1(local2 int1)", "prim2", "prim2(local2)", "prim2(local2 text)", "prim2(text int1)", "prim2(list int0)", "prim2(local2 int0 int0)", "prim2(int0 local2)",
		"prim3", "prim3(local2 int0)", "prim3(local2 int0 text)", "prim3(local2 text int1)", "prim3(text int0 text)", "prim3(local2 int0 int1 int1)", "prim3(local0 int0 int1)", "prim3(list(text) int0 int1)",
		"prim4", "prim4(local2)", "prim4(local2 int0)", "prim4(local2 int0 text)", "prim4(local2 text int0)", "prim4(text int0 int1)", "prim4(local2 int0 int1 int1)", "prim4(local3 int0 int1)",
		"prim5", "prim5(local2)", "prim5(int1)", "prim5(text int1)", "prim6", "prim6(text)", "prim6(text int0)", "prim6(text int0 text)", "prim6(text text int0)", "prim6(local2 int0 int1)", "prim6(text int0 int1 int2)", "prim7", "prim7(text)", "prim7(int1 int1)",
	}
	for _, op := range []string{"and", "or"} {
		l = append(l, op+"(int1 bool1)", op+"(bool1 int1)", op+"(bool1 local10)", op+"(local10 bool1)", op+"(text unit)")
	}
	for _, op := range []string{"add", "minus", "mul", "div", "mod"} {
		l = append(l, op+"(text int1)", op+"(int1 text)", op+"(int1 local10)", op+"(local10 int1)", op+"(local7 local7)", op+"(text text)")
	}
	for _, op := range []string{"eq", "ne", "lt", "le", "gt", "ge"} {
		l = append(l, op+"(int1 text)", op+"(text int1)", op+"(local5 local5)", op+"(list local2)", op+"(list list)", op+"(local2 list(text))", op+"(list(fun0) list(fun0))", op+"(list(fun0) list)", op+"(int1 local10)", op+"(local10 int1)", op+"(local3 local4)")
	}
	for _, op := range []string{"lt", "le", "gt", "ge"} {
		l = append(l, op+"(bool0 bool1)", op+"(local2 local2)", op+"(local3 local3)", op+"(unit unit)", op+"(local4 local4)", op+"(local6 local6)")
	}
	return append(l, "not(int1)", "not(local10)", "neg(text)", "neg(bool1)", "neg(local10)")
}

// invalidMatches contains matches of which one condition does not hold.
func invalidMatches() []string {
	return []string{
		"match", "match(local4)", "match(ctor0'O')", "match(arm-1(int1))", "match(int1 arm-1(int1))", "match(local3 arm-1(int1))", "match(rec'E' arm0(int1))", "match(list arm-1(int1))", "match(local6 arm-1(int1))", "match(local2 arm-1(int1))", "match(local10 arm-1(int1))",
		"match(local4 arm0/10(int1))", "match(local4 arm0/10(int1) arm1/10(int1))", "match(local4 arm0/10(int1) arm2/10(int1))", "match(local4 arm2(int1) arm1/10(int1))",
		"match(local4 arm0/10(int1) arm0/10(int1))", "match(local4 arm0/10(int1) arm0/10(int1) arm-1(int1))", "match(local4 arm0/10(int1) arm0/10(int1) arm1/10(int1) arm2(int1))", "match(local4 arm2(int1) arm2(int1) arm-1(int1))", "match(ctor0'O' arm0(int1) arm0(int1))", "match(local4 arm0/10(int1) arm0/10(int1) arm1/10(int1))",
		"match(local4 arm-1(int1) arm0/10(int1))", "match(local4 arm-1(int1) arm-1(int1))", "match(local4 arm2(int1) arm-1(int1) arm1/10(int1))", "match(local4 arm0/10(int1) arm1/10(int1) arm-1(int1) arm2(int1))", "match(local4 arm0/10(int1) arm1/10(int1) arm2(int1) arm-1(int1) arm-1(int1))",
		"match(local4 arm-2(int1) arm-1(int1))", "match(local4 arm-2(int1))", "match(local4 arm3(int1) arm-1(int1))", "match(local4 arm9223372036854775807(int1) arm-1(int1))", "match(local4 arm0/10(int1) arm1/10(int1) arm2(int1) arm3(int1))", "match(ctor0'O' arm1(int1))",
		"match(local4 arm0/-1(int1) arm-1(int1))", "match(local4 arm0/0(int1) arm-1(int1))", "match(local4 arm0/9(int1) arm-1(int1))", "match(local4 arm0/13(int1) arm-1(int1))", "match(local4 arm0/14(int1) arm-1(int1))",
		"match(local4 arm1/-1(int1) arm-1(int1))", "match(local4 arm1/9(int1) arm-1(int1))", "match(local4 arm1/12(int1) arm-1(int1))", "match(local4 arm1/13(int1) arm-1(int1))", "match(local4 arm2/-1(int1) arm-1(int1))", "match(local4 arm2/14(int1) arm-1(int1))",
		"match(local4 arm-1/-1(int1))", "match(local4 arm-1/14(int1))", "match(local4 arm-1/9223372036854775807(int1))", "match(local4 arm0/9223372036854775807(int1) arm-1(int1))", "match(local4 arm1/9223372036854775807(int1) arm-1(int1))", "match(local4 arm0/-9223372036854775808(int1) arm-1(int1))",
		"match(local4 arm0/10(int1) arm-1(text))", "match(local4 arm0/10(text) arm-1(int1))", "match(local4 arm0/10(int1) arm1/10(local11) arm2(int1))", "match(local4 arm0/10(list) arm-1(int1))", "match(local4 arm0/10(int1) arm1/10(int1) arm2(text))",
		"match(local4 arm0/10(local11) arm-1(int1))", "match(local4 arm0/10(int1) arm-1(local10))", "match(local4 arm0/10(local10) arm1/11(local10) arm2(int1))", "match(local4 arm-1(local10))", "add(match(local4 arm0/10(local10) arm-1(int1)) local10)", "match(local4 arm0/10(let10(int1 int1)) arm-1(int1))",
		"match(local4 arm0/10(match(local4 arm0/10(int1) arm-1(int1))) arm-1(int1))", "match(local4 arm0/11(match(local4 arm1/10(int1) arm-1(int1))) arm-1(int1))", "let10(int1 match(local4 arm0/10(int1) arm-1(int1)))", "let11(int1 match(local4 arm1/10(int1) arm-1(int1)))",
		"match(local4 arm0/10'V'(local10) arm-1(int1))", "match(local4 arm-1' '(int1))", "match(local4 arm-1)", "match(local4 arm-1(int1 int2))", "match(local4 int1)", "match(local4 arm-1(int1) int1)", "match(local4 arm0/10(int1) local4 arm-1(int1))", "match(local4 match(local4 arm-1(int1)))",
		"arm-1(int1)", "arm", "arm0/10(int1)", "neg(arm-1(int1))", "let10(arm-1(int1) int1)",
	}
}

// P11.1: an expression of which one condition does not hold is invalid without an expected type and with each.
func TestInvalidExpressions(t *testing.T) {
	for _, s := range slices.Concat(invalid(), invalidMatches()) {
		if has, is := typed(expr(s)); has != "" || is != "" {
			t.Errorf("%s: has %q, is %q", s, has, is)
		}
		right(t, inferring(expr(s), "int"), false, s)
		right(t, ignoring(expr(s)), false, s)
	}
}

// usesOf names the fields that an operator uses, of n, m and s.
func usesOf(op int) string {
	switch op {
	case api.XBool, api.XInt, api.XLocal, api.XState, api.XGet, api.XWith, api.XLet, api.XCall, api.XFun, api.XPrim:
		return "n"
	case api.XText, api.XRec:
		return "s"
	case api.XCtor:
		return "ns"
	case api.XArm:
		return "nm"
	}
	return ""
}

// damaged returns an expression with something that no valid one has: a field that must be zero, an operator that is none, or a kid too few or too many.
func damaged(x api.Expr) []api.Expr {
	var l []api.Expr
	change := func(f func(x *api.Expr)) {
		y := copied(x)
		f(&y)
		l = append(l, y)
	}
	for _, n := range []int{1, -1, 2, 10, math.MinInt, math.MaxInt} {
		if !strings.Contains(usesOf(x.Op), "n") {
			change(func(x *api.Expr) { x.N = n })
		}
		change(func(x *api.Expr) { x.M = n })
	}
	for _, s := range []string{"P", "V", "x", "\x00", " "} {
		if !strings.Contains(usesOf(x.Op), "s") {
			change(func(x *api.Expr) { x.S = s })
		}
	}
	for _, op := range []int{0, -1, api.XArm, 37, 38, math.MinInt, math.MaxInt} {
		change(func(x *api.Expr) { x.Op = op })
	}
	if count := len(x.Kids); count > 0 && x.Op != api.XList && x.Op != api.XFun && x.Op != api.XMatch {
		change(func(x *api.Expr) { x.Kids = x.Kids[:count-1] })
		change(func(x *api.Expr) { x.Kids = x.Kids[1:] })
		change(func(x *api.Expr) { x.Kids = nil })
	}
	for _, kid := range []string{"unit", "int1", "text", "local5", "local99", "arm-1(int1)"} {
		if x.Op != api.XList && x.Op != api.XFun && x.Op != api.XMatch {
			change(func(x *api.Expr) { x.Kids = append(x.Kids, expr(kid)) })
		}
	}
	return l
}

// P11.1: no expression of the table is valid with a field that must be zero, an operator that is none, or a wrong number of Kids.
func TestDamagedExpressions(t *testing.T) {
	for _, r := range rows() {
		form, _, _ := strings.Cut(r.is, "; ")
		for _, s := range r.xs {
			for _, x := range damaged(expr(s)) {
				if core.Right(expecting(x, form)) || core.Right(inferring(x, form)) || core.Right(ignoring(x)) {
					t.Errorf("%s is still valid as %+v", s, x)
				}
			}
		}
	}
}

// P11.1: the conditions on slots at the largest number of slots, at none, and at the number of parameters.
func TestSlotsOfExpressions(t *testing.T) {
	for _, c := range []struct {
		params, slots int
		x             string
		want          bool
	}{
		{0, 0, "int1", true}, {0, 0, "local0", false}, {0, 0, "let0(int1 local0)", false}, {0, 1, "let0(int1 local0)", true}, {0, 1, "local0", false}, {0, 1, "let1(int1 int1)", false},
		{2, 2, "add(local0 local1)", true}, {2, 2, "local2", false}, {2, 2, "let2(int1 int1)", false}, {2, 3, "let2(int1 local2)", true}, {2, 3, "local2", false}, {2, 3, "let1(int1 int1)", false}, {2, 3, "let3(int1 int1)", false},
		{0, 32768, "let32767(int1 local32767)", true}, {0, 32768, "let32768(int1 int1)", false}, {0, 32768, "let-1(int1 int1)", false}, {32768, 32768, "local32767", true}, {32767, 32768, "local32767", false}, {32767, 32768, "let32767(int1 local32767)", true},
		{0, 32768, "match(call2 arm0/32767(local32767) arm-1(int1))", true}, {0, 32768, "match(call2 arm0/32768(int1) arm-1(int1))", false}, {0, 32768, "match(call2 arm1/32767(int1) arm-1(int1))", false}, {0, 32768, "match(call2 arm1/32766(int1) arm-1(int1))", true},
		{0, 32768, "match(call2 arm2/32768(int1) arm-1/32768(int1))", true}, {0, 32768, "match(call2 arm2/32769(int1) arm-1(int1))", false}, {0, 32768, "match(call2 arm-1/32769(int1))", false},
		{0, 0, "match(call2 arm2/0(int1) arm-1/0(int1))", true}, {0, 0, "match(call2 arm-1/1(int1))", false}, {0, 0, "match(call2 arm0/0(int1) arm-1(int1))", false},
	} {
		p := base()
		f := api.Fun{Result: typ("int"), Slots: c.slots, Body: expr(c.x)}
		for k := range c.params {
			f.Params = append(f.Params, api.Field{Name: "p" + strings.Repeat("x", k%100) + string(rune('a'+k/100%26)) + string(rune('a'+k/2600)), Type: typ("int")})
		}
		p.Funs = append(p.Funs, f)
		if got := core.Right(p); got != c.want {
			t.Errorf("%d parameters, %d slots, %s: %v", c.params, c.slots, c.x, got)
		}
	}
}
