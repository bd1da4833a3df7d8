package check_test

import (
	"testing"

	"retroact/api"
)

// later are functions behind the one of a translation, with the numbers 5 and 6.
const later = " fun later(x: int): unit = () fun t2(): V = C"

// translation is a function `fun t(params): result = source` behind decls, and its body.
type translation struct{ params, result, source, want string }

// translate returns the functions from that of a row on, which has number 4. Those of closures begin at number 7.
func (x translation) translate(t *testing.T) []api.Fun {
	t.Helper()
	return checked(t, decls+"fun t("+x.params+"): "+x.result+" = "+x.source+later).Funs[4:]
}

func translates(t *testing.T, rows []translation) {
	t.Helper()
	for _, x := range rows {
		if got := show(x.translate(t)[0].Body); got != x.want {
			t.Errorf("%s: %s; want %s", x.source, got, x.want)
		}
	}
}

// P10.1: literals, names, lists and the forms of records and variants.
func TestData(t *testing.T) {
	translates(t, []translation{
		{"", "int", "0", "int0"}, {"", "int", "9007199254740992", "int9007199254740992"},
		{"", "text", `""`, "text''"}, {"", "text", `"a\n\"'"`, "text'a\n\"''"},
		{"", "bool", "true", "bool1"}, {"", "bool", "false", "bool0"}, {"", "unit", "()", "unit"},
		{"a: int", "int", "a", "local0"}, {"a: int, b: text, c: unit", "unit", "c", "local2"},
		{"", "fun(int): int", "f", "fun0"}, {"", "fun(): V", "v", "fun1"}, {"", "fun(fun(int, text): bool, [int]): bool", "h", "fun3"}, {"a: int", "fun(int): unit", "later", "fun5"},
		{"", "[int]", "[]", "list"}, {"", "[[P]]", "[]", "list"}, {"", "[int]", "[1]", "list(int1)"}, {"a: int", "[int]", "[a, 2, a]", "list(local0 int2 local0)"},
		{"", "[[int]]", "[[], [1], []]", "list(list list(int1) list)"}, {"", "[fun(): V]", "[v, t2]", "list(fun1 fun6)"},
		{"", "int", "len([1, 2])", "prim1(list(int1 int2))"}, {"", "int", "len([[1], []])", "prim1(list(list(int1) list))"}, {"", "bool", "[[C]] == []", "eq(list(list(ctor2'V')) list)"},
		{"", "E", "E { }", "rec'E'"}, {"", "P", "P { x = 1, y = [2] }", "rec'P'(int1 list(int2))"}, {"", "P", "P { y = [], x = 1 }", "rec'P'(int1 list)"},
		{"r: ref W", "N", "N { v = C, r = r, p = P { y = [1], x = f(2) } }", "rec'N'(rec'P'(call0(int2) list(int1)) ctor2'V' local0)"},
		{"", "V", "C", "ctor2'V'"}, {"", "V", "A(1)", "ctor0'V'(int1)"}, {"", "V", `B(p(), "s")`, "ctor1'V'(call2 text's')"},
		{"", "O", "No", "ctor0'O'"}, {"", "O", "Some(A(3))", "ctor1'O'(ctor0'V'(int3))"}, {"", "T", "T(1, 2, 3)", "ctor0'T'(int1 int2 int3)"},
		{"", "int", "p().x", "get0(call2)"}, {"", "[int]", "p().y", "get1(call2)"}, {"n: N", "int", "n.p.x", "get0(get0(local0))"}, {"n: N", "ref W", "n.r", "get2(local0)"},
		{"", "int", "P { x = 1, y = [] }.x", "get0(rec'P'(int1 list))"},
		{"", "P", "p() with { y = [] }", "with1(call2 list)"}, {"", "P", "p() with { y = [], x = 1 }", "with0(with1(call2 list) int1)"}, {"", "P", "p() with { x = 1, y = [] }", "with1(with0(call2 int1) list)"},
		{"n: N", "N", "n with { r = n.r, p = n.p with { x = 1 }, v = C }", "with1(with0(with2(local0 get2(local0)) with0(get0(local0) int1)) ctor2'V')"},
		{"", "int", "(p() with { x = 1 }).x", "get0(with0(call2 int1))"}, {"", "P", "p() with { x = 1 } with { x = 2 }", "with0(with0(call2 int1) int2)"},
	})
}

// P10.1: calls of functions, function values and primitive functions.
func TestCalls(t *testing.T) {
	translates(t, []translation{
		{"", "int", "f(1)", "call0(int1)"}, {"", "V", "v()", "call1"}, {"", "int", "(f)(1)", "call0(int1)"}, {"", "int", "t()", "call4"}, {"a: int", "int", "t(t(a))", "call4(call4(local0))"},
		{"g: fun(int, text): bool", "bool", "h(g, [])", "call3(local0 list)"}, {"", "unit", "later(1)", "call5(int1)"},
		{"g: fun(int): int", "int", "g(1)", "apply(local0 int1)"}, {"a: int, g: fun(): int", "int", "g()", "apply(local1)"}, {"g: fun(int, [text]): int", "int", "g(1, [])", "apply(local0 int1 list)"},
		{"g: fun(int): fun(int): int", "int", "g(1)(2)", "apply(apply(local0 int1) int2)"}, {"", "int", "(if true then f else f)(1)", "apply(if(bool1 fun0 fun0) int1)"},
		{"l: [fun(): int]", "int", "at(l, 0)()", "apply(prim2(local0 int0))"},
		{"l: [int]", "int", "len(l)", "prim1(local0)"}, {"l: [text], n: int", "text", "at(l, n)", "prim2(local0 local1)"}, {"l: [text], n: int", "[text]", `put(l, n, "a")`, "prim3(local0 local1 text'a')"},
		{"l: [text], n: int", "[text]", "slice(l, n, 2)", "prim4(local0 local1 int2)"}, {"", "int", `size("a")`, "prim5(text'a')"}, {"s: text", "text", "sub(s, 1, 2)", "prim6(local0 int1 int2)"}, {"n: int", "text", "show(n)", "prim7(local0)"},
		// The expected type goes to the lists of put and slice, and the element type to the third argument of put.
		{"", "[int]", "put([], 0, 1)", "prim3(list int0 int1)"}, {"", "[int]", "slice([], 0, 1)", "prim4(list int0 int1)"}, {"", "[[int]]", "put(slice([], 1, 2), 0, [])", "prim3(prim4(list int1 int2) int0 list)"},
		{"", "int", "len(put([[1]], 0, []))", "prim1(prim3(list(list(int1)) int0 list))"}, {"", "bool", "slice([1], 0, 1) == []", "eq(prim4(list(int1) int0 int1) list)"}, {"", "int", "at([1, 2], 1)", "prim2(list(int1 int2) int1)"},
	})
}

// P10.1: operators, if and let.
func TestOperators(t *testing.T) {
	translates(t, []translation{
		{"", "int", "-1", "neg(int1)"}, {"a: int", "int", "- -a", "neg(neg(local0))"}, {"", "int", "-9007199254740992", "neg(int9007199254740992)"}, {"a: bool", "bool", "not a", "not(local0)"}, {"", "bool", "not not true", "not(not(bool1))"},
		{"", "int", "1 + 2", "add(int1 int2)"}, {"", "int", "1 - 2", "minus(int1 int2)"}, {"", "int", "1 * 2", "mul(int1 int2)"}, {"", "int", "1 / 2", "div(int1 int2)"}, {"", "int", "1 % 2", "mod(int1 int2)"},
		{"", "bool", "true and false", "and(bool1 bool0)"}, {"", "bool", "true or false", "or(bool1 bool0)"},
		{"", "bool", "1 == 2", "eq(int1 int2)"}, {"", "bool", `"a" != "b"`, "ne(text'a' text'b')"}, {"", "bool", "() == ()", "eq(unit unit)"}, {"", "bool", "true == false", "eq(bool1 bool0)"}, {"", "bool", "p() == p()", "eq(call2 call2)"},
		{"", "bool", "[C] != []", "ne(list(ctor2'V') list)"}, {"r: ref W", "bool", "r == r", "eq(local0 local0)"},
		{"", "bool", "1 < 2", "lt(int1 int2)"}, {"", "bool", "1 <= 2", "le(int1 int2)"}, {"", "bool", "1 > 2", "gt(int1 int2)"}, {"", "bool", "1 >= 2", "ge(int1 int2)"},
		{"", "bool", `"a" < "b"`, "lt(text'a' text'b')"}, {"", "bool", `"a" <= "b"`, "le(text'a' text'b')"}, {"", "bool", `"a" > "b"`, "gt(text'a' text'b')"}, {"", "bool", `"a" >= "b"`, "ge(text'a' text'b')"},
		{"", "text", `"a" ++ "b"`, "cat(text'a' text'b')"}, {"", "[int]", "[] ++ []", "cat(list list)"}, {"", "[[int]]", "[] ++ [[]] ++ []", "cat(cat(list list(list)) list)"},
		{"", "bool", `"a" ++ "b" == "c"`, "eq(cat(text'a' text'b') text'c')"}, {"", "int", "len([1] ++ [])", "prim1(cat(list(int1) list))"}, {"l: [fun(): V]", "[fun(): V]", "l ++ [v]", "cat(local0 list(fun1))"},
		{"", "int", "1 + 2 * 3 - -4", "minus(add(int1 mul(int2 int3)) neg(int4))"}, {"", "bool", "not 1 < 2 or true and false", "or(not(lt(int1 int2)) and(bool1 bool0))"},
		{"a: bool", "int", "if a then 1 else 2", "if(local0 int1 int2)"}, {"", "[int]", "if true then [] else [1]", "if(bool1 list list(int1))"}, {"", "int", "len(if true then [1] else [])", "prim1(if(bool1 list(int1) list))"},
		{"", "int", "let x = 1 in x", "let0(int1 local0)"}, {"a: int", "[int]", "let x = [a] in []", "let1(list(local0) list)"}, {"", "int", "let g = f in g(1)", "let0(fun0 apply(local0 int1))"},
	})
}

// P10.1: matches of expressions.
func TestMatches(t *testing.T) {
	translates(t, []translation{
		{"", "int", "match v() { A(x) => x, B(q, s) => q.x, C => 0 }", "match(call1 arm0/0(local0) arm1/0(get0(local0)) arm2/0(int0))"},
		{"a: int, v: V", "int", "match v { C => a, B(q, s) => size(s), A(x) => x }", "match(local1 arm2/2(local0) arm1/2(prim5(local3)) arm0/2(local2))"},
		{"v: V", "[int]", "match v { A(x) => [], _ => [1] }", "match(local0 arm0/1(list) arm-1/1(list(int1)))"}, {"v: V", "int", "match v { _ => 7 }", "match(local0 arm-1/1(int7))"},
		{"v: V", "int", "match v { A(_) => 1, B(_, _) => 2, _ => 3 }", "match(local0 arm0/1(int1) arm1/1(int2) arm-1/1(int3))"}, {"v: V", "int", "match v { A(_) => 1, B(_, _) => 2, C => 3, _ => 4 }", "match(local0 arm0/1(int1) arm1/1(int2) arm2/1(int3) arm-1/1(int4))"},
		{"o: O", "int", "match o { No => 0, Some(w) => match w { A(n) => n, _ => 1 } }", "match(local0 arm0/1(int0) arm1/1(match(local1 arm0/2(local2) arm-1/2(int1))))"},
		{"v: V", "int", "len(match v { C => [1], _ => [] })", "prim1(match(local0 arm2/1(list(int1)) arm-1/1(list)))"}, {"", "int", "match (let k = A(1) in k) { _ => 1 }", "match(let0(ctor0'V'(int1) local0) arm-1/0(int1))"},
	})
}

// P10.1: hidden bindings and bindings that nothing uses have slots, and slots are used again after the end of a scope.
func TestSlots(t *testing.T) {
	for _, row := range []struct {
		translation
		slots int
	}{
		{translation{"", "int", "1", "int1"}, 0}, {translation{"a: int, b: int", "int", "1", "int1"}, 2}, {translation{"", "int", "let x = 1 in 2", "let0(int1 int2)"}, 1},
		{translation{"b: int", "int", "let a = 1 in let a = 2 in a", "let1(int1 let2(int2 local2))"}, 3}, {translation{"a: int", "int", "let a = a + 1 in let a = a + 2 in a", "let1(add(local0 int1) let2(add(local1 int2) local2))"}, 3},
		{translation{"a: int", "int", "(let a = 1 in a) + a + (let b = 2 in b)", "add(add(let1(int1 local1) local0) let1(int2 local1))"}, 2}, {translation{"", "int", "let a = (let b = 1 in b) in let c = 2 in a + c", "let0(let0(int1 local0) let1(int2 add(local0 local1)))"}, 2},
		{translation{"", "int", "let a = (let b = 1 in let c = 2 in c) in a", "let0(let0(int1 let1(int2 local1)) local0)"}, 2},
		{translation{"v: V", "int", "match v { B(_, s) => size(s), A(n) => n, C => 0 }", "match(local0 arm1/1(prim5(local2)) arm0/1(local1) arm2/1(int0))"}, 3},
		{translation{"v: V", "int", "match v { B(x, x) => size(x), A(v) => v, C => 0 }", "match(local0 arm1/1(prim5(local2)) arm0/1(local1) arm2/1(int0))"}, 3},
		{translation{"v: V", "int", "match v { B(_, _) => let z = 1 in z, _ => let z = 2 in z }", "match(local0 arm1/1(let3(int1 local3)) arm-1/1(let1(int2 local1)))"}, 4},
		{translation{"x: int, y: T", "int", "match y { T(x, _, x) => x }", "match(local1 arm0/2(local4))"}, 5}, {translation{"x: int, y: T", "int", "match y { T(_, x, y) => x + y }", "match(local1 arm0/2(add(local3 local4)))"}, 5},
		{translation{"", "int", "match A(1) { A(_) => 1, _ => 2 }", "match(ctor0'V'(int1) arm0/0(int1) arm-1/0(int2))"}, 1}, {translation{"v: V", "int", "match v { _ => 2 }", "match(local0 arm-1/1(int2))"}, 1},
		{translation{"v: V", "V", "match (match v { A(x) => v, _ => v }) { A(y) => v, _ => v }", "match(match(local0 arm0/1(local0) arm-1/1(local0)) arm0/1(local0) arm-1/1(local0))"}, 2},
		{translation{"a: int", "int", "if (let b = true in b) then (let c = 1 in let d = 2 in c) else (let e = 3 in a + e)", "if(let1(bool1 local1) let1(int1 let2(int2 local1)) let1(int3 add(local0 local1)))"}, 3},
		{translation{"a: int", "P", "P { y = let b = [a] ++ [] in b, x = let c = 1 in c }", "rec'P'(let1(int1 local1) let1(cat(list(local0) list) local1))"}, 2},
	} {
		f := row.translate(t)[0]
		if got := show(f.Body); got != row.want || f.Slots != row.slots {
			t.Errorf("%s: %s with %d slots; want %s with %d", row.source, got, f.Slots, row.want, row.slots)
		}
	}
}
