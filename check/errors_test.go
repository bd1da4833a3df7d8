package check_test

import (
	"slices"
	"strings"
	"testing"

	"retroact/api"
	"retroact/check"
	"retroact/syntax"
	"retroact/types"
)

// mistake is a function `fun t(params): result = source` behind decls, with an error at ^.
type mistake struct {
	e                      api.Errno
	params, result, source string
}

func mistaken(t *testing.T, rows []mistake) {
	t.Helper()
	for _, x := range rows {
		fails(t, x.e, decls+"fun t("+x.params+"): "+x.result+" = "+x.source+later)
	}
}

// P10.1: the errors of literals, names and self.
func TestNameErrors(t *testing.T) {
	mistaken(t, []mistake{
		{api.ErrType, "", "text", "^1"}, {api.ErrType, "", "int", `^"1"`}, {api.ErrType, "", "int", "^true"}, {api.ErrType, "", "bool", "^()"}, {api.ErrType, "", "unit", "^1"},
		{api.ErrName, "", "int", "^x"}, {api.ErrName, "", "int", "^t3"}, {api.ErrName, "a: int", "int", "^b"}, {api.ErrName, "", "int", "^pay"}, {api.ErrName, "", "int", "^s"}, {api.ErrName, "", "int", "^init"},
		{api.ErrType, "", "int", "^f"}, {api.ErrType, "", "fun(text): int", "^f"}, {api.ErrType, "", "fun(int): text", "^f"}, {api.ErrType, "", "fun(int, int): int", "^f"}, {api.ErrType, "", "fun(): int", "^f"},
		{api.ErrType, "a: text", "int", "^a"}, {api.ErrType, "a: [int]", "[text]", "^a"}, {api.ErrType, "a: ref W", "ref Main", "^a"}, {api.ErrType, "a: V", "O", "^a"},
		{api.ErrName, "", "ref Main", "^self"}, {api.ErrName, "", "int", "^self"}, {api.ErrName, "", "bool", "^self == self"},
		// A name is no longer bound behind its scope, and not yet in its own let.
		{api.ErrName, "", "int", "(let x = 1 in x) + ^x"}, {api.ErrName, "", "int", "let x = ^x in 1"}, {api.ErrName, "", "int", "match v() { A(x) => x, _ => ^x }"}, {api.ErrName, "", "int", "match ^x { A(x) => x, _ => 1 }"},
		{api.ErrName, "", "int", "(fun(x: int): int = x)(^x)"}, {api.ErrName, "", "int", "if (let x = true in x) then ^x else 1"}, {api.ErrType, "x: text", "int", "(let x = 1 in x) + ^x"}, {api.ErrType, "v: V", "int", "match v { A(x) => x, _ => ^v }"},
		{api.ErrType, "x: int", "int", `let x = "" in ^x`}, {api.ErrType, "", "int", "match v() { B(x, x) => ^x, _ => 1 }"},
	})
	for _, name := range []string{"len", "at", "put", "slice", "size", "sub", "show"} {
		mistaken(t, []mistake{{api.ErrType, "", "int", "^" + name}, {api.ErrType, "", "fun(int): text", "^" + name}, {api.ErrType, "", "int", "let x = ^" + name + " in 1"}, {api.ErrType, "", "text", "show(^" + name + ")"}, {api.ErrType, "", "[int]", "[^" + name + "]"}})
	}
}

// P10.1: the errors of lists, records and variants, in the order of their rows.
func TestDataErrors(t *testing.T) {
	mistaken(t, []mistake{
		{api.ErrType, "", "int", "^[]"}, {api.ErrType, "", "int", "^[1]"}, {api.ErrType, "", "P", "^[x]"}, {api.ErrType, "", "int", "let l = ^[] in 1"}, {api.ErrType, "", "int", "len(^[])"}, {api.ErrType, "", "bool", "^[] == [1]"}, {api.ErrType, "", "[[int]]", "let l = [^[]] in l"},
		{api.ErrType, "", "[int]", `[1, ^"", x]`}, {api.ErrType, "", "[int]", "[^true]"}, {api.ErrType, "", "[[int]]", "[[], ^1]"}, {api.ErrType, "", "int", `len([1, ^""])`}, {api.ErrType, "", "int", "len([[1], [^true]])"}, {api.ErrName, "", "int", "len([1, ^x])"},
		{api.ErrName, "", "P", "^Q { x = x }"}, {api.ErrName, "", "V", "^V { }"}, {api.ErrName, "", "V", "^A { }"}, {api.ErrName, "", "int", "^Main { }"}, {api.ErrName, "", "int", "^Z { }"},
		{api.ErrName, "", "P", "P { ^z = x }"}, {api.ErrName, "", "P", "P { x = 1, y = [], ^z = 1 }"}, {api.ErrName, "", "E", "E { ^x = 1 }"}, {api.ErrName, "", "P", "P { ^z = 1, z = 1 }"}, {api.ErrName, "", "N", "N { ^x = 1 }"},
		{api.ErrTwice, "", "P", "P { x = 1, ^x = x }"}, {api.ErrTwice, "", "P", "P { y = [], x = 1, ^y = 1 }"}, {api.ErrTwice, "", "P", "P { x = 1, ^x = 1, z = 1 }"}, {api.ErrType, "", "P", "P { x = ^true, x = 1 }"}, {api.ErrType, "", "P", "P { x = ^true, z = 1 }"}, {api.ErrName, "", "P", "P { x = ^x, y = true }"},
		{api.ErrNeed, "", "P", "^P { }"}, {api.ErrNeed, "", "P", "^P { x = 1 }"}, {api.ErrNeed, "", "P", "^P { y = [] }"}, {api.ErrNeed, "", "int", "^P { x = 1 }"}, {api.ErrType, "", "P", "P { x = ^true }"}, {api.ErrName, "", "P", "P { x = ^x }"}, {api.ErrType, "", "P", "P { x = 1, y = ^1 }"},
		{api.ErrType, "", "int", "^P { x = 1, y = [] }"}, {api.ErrType, "", "V", "^E { }"}, {api.ErrNeed, "", "N", "N { v = C, p = ^P { x = 1 } }"},
		{api.ErrName, "", "V", "^D"}, {api.ErrName, "", "V", "^D(x)"}, {api.ErrName, "", "P", "^P"}, {api.ErrName, "", "P", "^P(1, [])"}, {api.ErrName, "", "V", "^V"}, {api.ErrName, "", "V", "^Main"}, {api.ErrName, "", "E", "^E"},
		{api.ErrType, "", "V", "^A"}, {api.ErrType, "", "V", "^A(x, x)"}, {api.ErrType, "", "V", "^B(p())"}, {api.ErrType, "", "V", "^C(x)"}, {api.ErrType, "", "int", "^A(x, 1)"}, {api.ErrType, "", "V", "A(^true)"}, {api.ErrType, "", "V", "B(^1, x)"}, {api.ErrType, "", "V", "B(p(), ^1)"}, {api.ErrName, "", "int", "A(^x)"},
		{api.ErrType, "", "int", "^A(1)"}, {api.ErrType, "", "O", "^C"}, {api.ErrType, "", "O", "Some(^No)"},
		{api.ErrType, "", "int", "^f(1).x"}, {api.ErrType, "", "int", "^v().x"}, {api.ErrType, "", "int", "^(f(1)).x"}, {api.ErrType, "", "int", "^f.x"}, {api.ErrType, "l: [P]", "int", "^l.x"}, {api.ErrName, "", "int", "^p().z"}, {api.ErrName, "", "int", "^p().x2"}, {api.ErrName, "", "text", "^p().z"},
		{api.ErrName, "", "int", "(^x).x"}, {api.ErrType, "", "text", "^p().x"}, {api.ErrType, "", "[text]", "^p().y"}, {api.ErrType, "n: N", "int", "^n.p"}, {api.ErrName, "n: N", "int", "^n.p.z"},
		{api.ErrType, "", "int", "^f(1) with { x = x }"}, {api.ErrType, "", "int", "^(f(1)) with { x = x }"}, {api.ErrType, "", "P", "(^f(1)) with { x = x }"}, {api.ErrType, "", "int", "let q = ^(v()) with { x = x } in 1"}, {api.ErrType, "", "int", "(^p()) with { z = 1 }"}, {api.ErrType, "", "V", "^(v()) with { x = 1 }"},
		{api.ErrName, "", "P", "p() with { ^z = x }"}, {api.ErrTwice, "", "P", "p() with { x = 1, ^x = x }"}, {api.ErrType, "", "P", "p() with { x = ^true, x = 2 }"}, {api.ErrType, "", "P", "p() with { x = 1, y = ^2, z = 3 }"}, {api.ErrName, "", "P", "(^x) with { z = 1 }"}, {api.ErrTwice, "", "P", "p() with { y = [], x = 1, ^y = [] }"},
		{api.ErrType, "", "P", "p() with { x = 1 } with { y = ^true }"}, {api.ErrType, "n: N", "N", "n with { p = ^n }"}, {api.ErrName, "n: N", "int", "let k = ^(n with { p = p() }).q in 1"},
	})
}

// P10.1: the errors of calls, in the order of their rows.
func TestCallErrors(t *testing.T) {
	mistaken(t, []mistake{
		{api.ErrType, "", "int", "^f()"}, {api.ErrType, "", "int", "^f(x, x)"}, {api.ErrType, "", "V", "^v(x)"}, {api.ErrType, "", "text", "^f(x, 1)"}, {api.ErrType, "", "int", "f(^true)"}, {api.ErrName, "", "text", "f(^x)"}, {api.ErrType, "", "text", "^f(1)"}, {api.ErrType, "", "bool", "h(^f, x)"}, {api.ErrType, "g: fun(int, text): bool", "bool", "h(g, ^1)"},
		{api.ErrType, "", "int", "^(f)(x, x)"}, {api.ErrType, "", "int", "(f)(^true)"}, {api.ErrName, "", "int", "^g(x)"}, {api.ErrName, "", "int", "(^g)(x)"}, {api.ErrName, "", "int", "^pay(1)"},
		{api.ErrType, "", "int", "^(1)(x)"}, {api.ErrType, "a: int", "int", "^a(x)"}, {api.ErrType, "a: int", "int", "^(a)(x)"}, {api.ErrType, "f: int", "int", "^f(x)"}, {api.ErrType, "len: int", "int", "^len(x)"}, {api.ErrType, "", "int", "^f(1)(x)"}, {api.ErrType, "", "int", "^C(1)"}, {api.ErrType, "", "int", "^p().x(x)"},
		{api.ErrType, "g: fun(int): int", "int", "^g()"}, {api.ErrType, "g: fun(int): int", "int", "^g(x, x)"}, {api.ErrType, "g: fun(int): int", "int", "^(g)(x, x)"}, {api.ErrType, "g: fun(int): int", "int", "g(^true)"}, {api.ErrType, "g: fun(int): int", "text", "^g(1)"}, {api.ErrName, "g: fun(int): int", "text", "g(^x)"},
		{api.ErrType, "g: fun(int): fun(int): int", "int", "^g(1)()"}, {api.ErrType, "g: fun(int): fun(int): int", "int", "^g(1)(2)(x)"}, {api.ErrType, "g: fun(int): fun(int): int", "int", "g(^true)(x)"}, {api.ErrType, "", "int", "(fun(x: int): int = x)(^true)"}, {api.ErrType, "", "int", "^(fun(x: int): int = x)()"},
		{api.ErrType, "", "int", "^len()"}, {api.ErrType, "", "int", "^len([1], x)"}, {api.ErrType, "", "int", "^at([1])"}, {api.ErrType, "", "int", "^at(x, 1, 1)"}, {api.ErrType, "", "[int]", "^put([1], 0)"}, {api.ErrType, "", "[int]", "^put(x, 0, 0, 0)"}, {api.ErrType, "", "[int]", "^slice([1], 0)"}, {api.ErrType, "", "[int]", "^slice()"},
		{api.ErrType, "", "int", "^size()"}, {api.ErrType, "", "int", `^size("", x)`}, {api.ErrType, "", "text", `^sub("", 1)`}, {api.ErrType, "", "text", `^sub(x, 1, 1, 1)`}, {api.ErrType, "", "text", "^show()"}, {api.ErrType, "", "text", "^show(x, 1)"},
		{api.ErrType, "", "int", "len(^1)"}, {api.ErrType, "", "int", `len(^"")`}, {api.ErrType, "", "int", "len(^[])"}, {api.ErrName, "", "text", "len(^x)"}, {api.ErrType, "", "text", "^len([1])"}, {api.ErrType, "", "int", "len(^p())"},
		{api.ErrType, "", "int", "at(^1, x)"}, {api.ErrType, "", "[int]", "at(^[], x)"}, {api.ErrType, "", "int", "at([1], ^true)"}, {api.ErrType, "", "text", "^at([1], 0)"}, {api.ErrName, "", "text", "at([1], ^x)"}, {api.ErrType, "", "[int]", "at([1, ^true], x)"},
		{api.ErrType, "", "int", "put(^1, x, x)"}, {api.ErrType, "", "int", "put(^[], x, x)"}, {api.ErrType, "", "[int]", "put(^1, x, x)"}, {api.ErrType, "", "[int]", "put([^true], x, x)"}, {api.ErrType, "l: [text]", "[int]", "put(^l, x, x)"}, {api.ErrType, "", "[int]", "put([], ^true, x)"}, {api.ErrType, "", "[int]", "put([], 0, ^true)"},
		{api.ErrType, "l: [text]", "int", "put(l, 0, ^1)"}, {api.ErrType, "l: [text]", "int", `^put(l, 0, "")`}, {api.ErrName, "l: [text]", "int", "put(l, 0, ^x)"}, {api.ErrType, "", "int", "len(put(^[], 0, 1))"}, {api.ErrType, "", "int", "len(put([1], 0, ^[]))"},
		{api.ErrType, "", "int", "slice(^1, x, x)"}, {api.ErrType, "", "[int]", "slice([^true], x, x)"}, {api.ErrType, "", "[int]", "slice(^v(), x, x)"}, {api.ErrType, "", "[int]", "slice([], ^true, x)"}, {api.ErrType, "", "[int]", "slice([], 0, ^true)"}, {api.ErrType, "l: [text]", "int", "^slice(l, 0, 1)"}, {api.ErrType, "", "int", "len(slice(^[], 0, 1))"},
		{api.ErrType, "", "int", "size(^1)"}, {api.ErrType, "", "int", "size(^[1])"}, {api.ErrType, "", "text", `^size("")`}, {api.ErrType, "", "text", "sub(^1, x, x)"}, {api.ErrType, "", "text", `sub("", ^true, x)`}, {api.ErrType, "", "text", `sub("", 1, ^true)`}, {api.ErrType, "", "int", `^sub("", 1, 1)`},
		{api.ErrType, "", "text", "show(^true)"}, {api.ErrType, "", "text", `show(^"")`}, {api.ErrType, "", "int", "^show(1)"}, {api.ErrName, "", "int", "show(^x)"},
	})
}

// P10.1: the errors of operators, if and let.
func TestOperatorErrors(t *testing.T) {
	rows := []mistake{
		{api.ErrType, "", "int", "- ^true"}, {api.ErrType, "", "bool", "^-1"}, {api.ErrName, "", "bool", "- ^x"}, {api.ErrType, "", "bool", "not ^1"}, {api.ErrType, "", "int", "^not true"}, {api.ErrName, "", "int", "not ^x"},
		{api.ErrType, "", "bool", "^f == x"}, {api.ErrType, "", "bool", "^f != x"}, {api.ErrType, "", "bool", "^[f] == []"}, {api.ErrType, "", "bool", "(^fun(): int = 1) == x"}, {api.ErrType, "", "bool", "1 == ^true"}, {api.ErrType, "", "bool", "true != ^1"}, {api.ErrType, "", "bool", "p() == ^v()"}, {api.ErrType, "", "int", "^1 == 1"}, {api.ErrType, "", "bool", "^[] == [1]"}, {api.ErrName, "", "int", "^x == 1"},
		{api.ErrType, "", "text", "^1 ++ x"}, {api.ErrType, "", "text", "\"\" ++ ^1"}, {api.ErrType, "", "int", "^x ++ 2"}, {api.ErrType, "", "int", "^(1) ++ 2"}, {api.ErrType, "", "V", "^(x) ++ x"}, {api.ErrType, "", "fun(): int", "^(x) ++ x"}, {api.ErrType, "", "[int]", `^"" ++ [1]`}, {api.ErrType, "", "[int]", `[1] ++ ^""`}, {api.ErrType, "", "[int]", "[^true] ++ x"},
		{api.ErrType, "", "int", "let k = ^1 ++ x in 1"}, {api.ErrType, "", "int", "let k = (^1) ++ x in 1"}, {api.ErrType, "", "int", "let k = (^v()) ++ x in 1"}, {api.ErrType, "", "int", `let k = "" ++ ^1 in x`}, {api.ErrType, "", "int", "let k = [1] ++ [^true] in x"}, {api.ErrType, "", "int", "let k = ^[] ++ [1] in x"},
		{api.ErrType, "", "int", "if ^1 then x else x"}, {api.ErrType, "", "int", "if true then ^true else x"}, {api.ErrType, "", "int", "if true then 1 else ^true"}, {api.ErrType, "", "int", `let k = if true then 1 else ^"" in x`}, {api.ErrType, "", "[int]", "let k = if true then ^[] else [1] in k"},
		{api.ErrName, "", "int", "let k = ^x in x"}, {api.ErrType, "", "int", "let k = 1 in ^true"}, {api.ErrName, "", "int", "let k = 1 in k + ^x"}, {api.ErrType, "", "int", "let k = ^[] in 1"}, {api.ErrType, "", "int", "let k = true in 1 + ^k"},
	}
	for _, op := range []string{"+", "-", "*", "/", "%"} {
		rows = append(rows, mistake{api.ErrType, "", "int", "^true " + op + " x"}, mistake{api.ErrType, "", "int", "1 " + op + ` ^""`}, mistake{api.ErrType, "", "bool", "^1 " + op + " 2"}, mistake{api.ErrType, "", "bool", "^(1) " + op + " 2"}, mistake{api.ErrName, "", "bool", "1 " + op + " ^x"})
	}
	for _, op := range []string{"and", "or"} {
		rows = append(rows, mistake{api.ErrType, "", "bool", "^1 " + op + " x"}, mistake{api.ErrType, "", "bool", "true " + op + " ^1"}, mistake{api.ErrType, "", "int", "^true " + op + " false"}, mistake{api.ErrName, "", "int", "true " + op + " ^x"})
	}
	for _, op := range []string{"<", "<=", ">", ">="} {
		rows = append(rows, mistake{api.ErrType, "", "bool", "^true " + op + " x"}, mistake{api.ErrType, "", "bool", "^[1] " + op + " x"}, mistake{api.ErrType, "", "bool", "(^p()) " + op + " x"}, mistake{api.ErrType, "", "bool", "^() " + op + " ()"}, mistake{api.ErrType, "", "bool", "^f " + op + " f"},
			mistake{api.ErrType, "", "bool", "1 " + op + ` ^""`}, mistake{api.ErrType, "", "bool", `"" ` + op + " ^1"}, mistake{api.ErrType, "", "int", "^1 " + op + " 1"}, mistake{api.ErrName, "", "int", "1 " + op + " ^x"})
	}
	mistaken(t, rows)
}

// P10.1: the errors of matches, in the order of their definition.
func TestMatchErrors(t *testing.T) {
	const p = "v: V, o: O"
	mistaken(t, []mistake{
		{api.ErrType, p, "int", "match ^1 { _ => x }"}, {api.ErrType, p, "int", "match ^p() { _ => x }"}, {api.ErrType, p, "int", "match ^[v] { _ => x }"}, {api.ErrName, p, "int", "match ^x { _ => x }"}, {api.ErrType, p, "int", "match ^f { D => x }"}, {api.ErrType, p, "int", "match ^[] { _ => 1 }"},
		{api.ErrTwice, p, "int", "match v { C => 1, ^C => x, _ => 1 }"}, {api.ErrTwice, p, "int", "match v { A(_) => 1, C => 1, ^A => x }"}, {api.ErrTwice, p, "int", "match v { _ => 1, ^C => x }"}, {api.ErrTwice, p, "int", "match v { _ => 1, ^D => x }"}, {api.ErrTwice, p, "int", "match v { _ => 1, ^_ => x }"}, {api.ErrTwice, p, "int", "match v { C => 1, _ => 2, ^A => x }"},
		{api.ErrName, p, "int", "match v { ^D => x, _ => 1 }"}, {api.ErrName, p, "int", "match v { ^No => x, _ => 1 }"}, {api.ErrName, p, "int", "match v { ^V => x, _ => 1 }"}, {api.ErrName, p, "int", "match v { C => 1, ^D(y) => x }"}, {api.ErrName, p, "int", "match v { ^D => x, D => 1 }"}, {api.ErrName, p, "int", "match o { No => 1, ^A(x) => x }"},
		{api.ErrType, p, "int", "match v { ^A => x, _ => 1 }"}, {api.ErrType, p, "int", "match v { ^A(y, z) => x, _ => 1 }"}, {api.ErrType, p, "int", "match v { ^C(y) => x, _ => 1 }"}, {api.ErrType, p, "int", "match v { C => 1, ^B(_) => x }"}, {api.ErrTwice, p, "int", "match v { A(_) => 1, ^A => x }"},
		{api.ErrName, p, "int", "match v { C => ^x, D => 1 }"}, {api.ErrType, p, "int", "match v { C => ^true, C => 1 }"}, {api.ErrType, p, "int", "match v { C => 1, _ => ^true }"}, {api.ErrType, p, "int", "let k = match v { C => 1, _ => ^true } in x"}, {api.ErrType, p, "int", "match v { A(y) => ^\"\", _ => y }"}, {api.ErrName, p, "int", "match v { A(y) => y, B(_, _) => ^y }"},
		{api.ErrNeed, p, "int", "^match v { C => 1 }"}, {api.ErrNeed, p, "int", "^match v { C => 1, A(_) => 1 }"}, {api.ErrNeed, p, "int", "^match o { Some(_) => 1 }"}, {api.ErrName, p, "int", "match v { C => ^x }"}, {api.ErrType, p, "int", "match v { C => 1, A(_) => ^true }"}, {api.ErrType, p, "text", "match v { C => ^1 }"}, {api.ErrNeed, p, "int", "f(^match v { C => 1, B(_, _) => 2 })"},
		{api.ErrType, p, "[int]", "let k = match v { C => ^[], _ => [1] } in k"}, {api.ErrNeed, p, "int", "match o { No => 1, Some(w) => ^match w { C => 1 } }"},
	})
	for _, s := range []string{
		"match ^1 { _ { y = 1 } }", "match ^p() { _ { } }", "match v() { ^A { y = 1 } _ { } }", "match v() { ^C(y) { } _ { } }", "match v() { C { } _ { s = ^true } }", "match v() { B(_, y) { s = ^y } _ { } }",
	} {
		fails(t, api.ErrType, placed(around, "a", s))
	}
	for _, s := range []string{"match v() { C { } ^C { y = 1 } _ { } }", "match v() { _ { } ^C { y = 1 } }", "match v() { _ { } ^D { } }", "match v() { _ { } ^_ { } }", "match v() { A(_) { } ^A { } }"} {
		fails(t, api.ErrTwice, placed(around, "a", s))
	}
	for _, s := range []string{"match ^y { _ { } }", "match v() { ^D { y = 1 } _ { } }", "match v() { C { ^y = 1 } D { } }", "match v() { C { ^y = 1 } }", "match v() { A(y) { } _ { s = ^y } }", "match v() { A(y) { } _ { } } s = ^y", "match v() { A(y) { let z = 1 } B(_, _) { s = ^z } }"} {
		fails(t, api.ErrName, placed(around, "a", s))
	}
	for _, s := range []string{"^match v() { C { } }", "^match v() { C { } A(_) { } } y = 1", "^match No { No { } }", "stop ^match v() { B(_, _) { } C { stop } }"} {
		fails(t, api.ErrNeed, placed(around, "a", s))
	}
}

// P10.1: the errors of lambdas, in the order of their row.
func TestLambdaErrors(t *testing.T) {
	mistaken(t, []mistake{
		{api.ErrName, "", "int", "(fun(x: ^Z): int = y)(1)"}, {api.ErrName, "", "int", "(fun(x: int, x: ^Z): int = y)(1)"}, {api.ErrName, "", "int", "(fun(x: [fun(int, ^Z): Z2], y: Z3): Z4 = y)(1)"}, {api.ErrName, "", "int", "(fun(): ^Z = y)()"}, {api.ErrName, "", "int", "(fun(x: int, x: int): fun(): ^Z = y)()"},
		{api.ErrName, "", "int", "(fun(x: ^ref Z): int = y)(1)"}, {api.ErrName, "", "int", "(fun(x: ^ref P): int = y)(1)"}, {api.ErrName, "", "int", "(fun(x: ^Main): int = y)(1)"}, {api.ErrName, "", "int", "(fun(x: ^A): int = y)(1)"}, {api.ErrName, "", "int", "(fun(x: ref Main, y: P): [^ref V] = y)(1)"}, {api.ErrName, "", "int", "(fun(x: fun(): fun(P): ^W): int = y)(1)"},
		{api.ErrTwice, "", "int", "(fun(x: int, ^x: int): int = y)(1, 1)"}, {api.ErrTwice, "", "int", "(fun(x: int, y: int, ^x: text): int = z)(1, 1)"}, {api.ErrTwice, "", "int", "(fun(x: int, y: int, ^y: text, x: int): int = z)(1, 1)"}, {api.ErrTwice, "x: int", "int", "(fun(x: int, ^x: int): int = x)(1, 1)"},
		{api.ErrName, "", "int", "(fun(x: int): int = ^y)(1)"}, {api.ErrType, "", "int", "(fun(x: int): text = ^x)(1)"}, {api.ErrType, "", "int", "(fun(x: int): int = ^f)(1)"}, {api.ErrName, "", "int", "(fun(): ref Main = ^self)()"}, {api.ErrName, "", "fun(): int", "fun(): fun(): int = fun(): int = ^self"},
		{api.ErrType, "", "int", "^fun(): int = 1"}, {api.ErrType, "", "fun(): text", "^fun(): int = 1"}, {api.ErrType, "", "fun(int): int", "^fun(): int = 1"}, {api.ErrType, "", "fun(): int", "^fun(x: int): int = 1"}, {api.ErrType, "", "fun(text): int", "^fun(x: int): int = 1"}, {api.ErrName, "", "int", "fun(): int = ^y"}, {api.ErrType, "a: int", "fun(): int", "^fun(b: int): int = a + b"},
		// The types of an inner lambda are checked in the body of the outer one.
		{api.ErrName, "", "int", "(fun(x: int, y: ^Z): int = (fun(z: Z2): int = 1)(1))(1)"}, {api.ErrTwice, "", "int", "(fun(x: int, ^x: int): int = (fun(z: Z2): int = 1)(1))(1)"}, {api.ErrName, "", "int", "(fun(x: int): int = (fun(z: ^Z2): int = 1)(x))(1)"}, {api.ErrName, "", "int", "(fun(x: int): int = ^y + (fun(z: Z2): int = 1)(x))(1)"},
		{api.ErrName, "", "int", "(fun(x: int): int = (fun(z: int): int = ^y)(x))(1)"}, {api.ErrType, "", "fun(): fun(): int", "fun(): fun(): int = ^fun(): text = \"\""},
	})
	for _, s := range []string{"let k = fun(): int = ^y", "let k = fun(): ^Z = 1", "let k = (fun(): int = 1)() let m = fun(): int = ^x", "let k = fun(x: int): int = x s = ^x"} {
		fails(t, api.ErrName, placed(around, "a", s))
	}
	// There are no state variables in Inits, also not for closures.
	fails(t, api.ErrName, placed(around, "(fun(): int = ^s)()", ""))
	fails(t, api.ErrName, placed(around, "(fun(): int = len(^l))()", ""))
}

// P10.1: the errors of statements, in the order of their rows.
func TestStatementErrors(t *testing.T) {
	for _, x := range []struct {
		e api.Errno
		l []string
	}{
		{api.ErrName, []string{
			"let x = ^y", "let x = ^x", "^y = z", "^n = z", "let x = 1 ^x = 2", "^a = 1", "^f = 1", "s = ^y", "for n in l { ^n = z }", "match A(1) { A(x) { ^x = z } _ { } }", "if ^y { z = 1 }", "if true { ^y = 1 } else { z = 1 }", "if true { } else { ^y = 1 }", "if true { let x = 1 } s = ^x", "if true { let x = true } else { s = ^x }",
			"for i in ^y { z = 1 }", "for i in l { ^y = 1 }", "for i in ^i { }", "for i in l { } s = ^i", "for i in l { let k = 1 } s = ^k", "send ^y Stop()", "^send w Nope(x)", "^send self Do(x)", "^send w Go(x, x)", "send w Do(^x, x)", `send w Do(1, ^x)`, "after ^x send y Stop()", "after 1 send ^y Stop()", "after 1 ^send w Nope(x)", "after 1 send w Do(^x, x)",
			"^spawn Z(x) on y", "^spawn P(x)", "let k = spawn Q(^k)", "let k = spawn Q(1) on ^k", "^let k = spawn Z()", "spawn Q(^x) on y", "spawn Q(1) on ^x", "spawn Q(1) s = ^q", "^do nope(x) then Nope", "^do f(1) then Yes", "do pay(^x) then Nope", "do pay(1) then ^Nope", "do pay(1) then ^Do", "do ask() then ^Stop", "fail ^x", "stop fail ^x",
		}},
		{api.ErrType, []string{
			"let x = ^[]", "let x = ^len", "s = ^true", "l = ^1", "s = ^l", "l = [^s]", "let s = true s = ^s", "if ^1 { y = 1 }", "if ^s { } else { y = 1 }", "for i in ^1 { y = 1 }", "for i in ^\"\" { }", "for i in ^[] { }", "for i in ^s { y = 1 }", "for i in l { s = ^i }",
			"send ^1 Stop(x)", "send ^f Nope()", "send ^l Stop()", "^send w Stop(x)", "^send w Do(x)", "^send w Do(x, x, x)", "^send self Go(x)", "send w Do(^true, x)", "send w Do(1, ^1)", "send self Go(1, ^self)", "after ^true send y Stop()", "after ^\"\" send w Nope()", "after 1 send ^1 Stop()", "after 1 ^send w Stop(x)", "after 1 send w Do(1, ^1)",
			"^spawn Q() on x", "^spawn Q(x, x)", "^spawn Main(x)", "^let k = spawn Q(x, x)", "spawn Q(^true) on x", "let k = spawn Q(^true) on x", "spawn W(1, ^w)", "spawn Q(1) on ^true", "let k = spawn Q(1) s = ^k", "let k = spawn Q(1) send ^s Yes(true)",
			"^do pay() then Nope", "^do pay(x, x) then Nope", "^do ask(x) then Nope", "do pay(^true) then Nope", "do tell(\"\", [^1]) then Nope", "do pay(1) then ^Go", "do pay(1) then ^Txt", "do pay(1) then ^Two", "do ask() then ^Yes", "do tell(\"\", []) then ^Yes", "fail ^1", "fail ^l",
		}},
	} {
		for _, s := range x.l {
			fails(t, x.e, placed(around, "a", s))
		}
	}
	// A handler without parameters, and one whose parameter is no list although its element type is right.
	fails(t, api.ErrType, decls+"actor X() { on M() { do ask() then ^M } }")
	fails(t, api.ErrType, decls+"effect all(): [text] actor X() { on M(t: text) { do all() then ^M } }")
	fails(t, api.ErrName, decls+"actor X() { on M(t: text) { do ask() then ^Do } }")
	fails(t, api.ErrName, decls+"actor X() { on M() { ^send self Do(1, \"\") } }")
}

// P10.1: the errors of state members.
func TestInitErrors(t *testing.T) {
	for e, l := range map[api.Errno][]string{
		api.ErrName: {"^s", "^l", "^n", "let x = 1 in ^y", "^w", "(let x = 1 in x) + ^x", "^init"}, api.ErrType: {"^true", "^l2", "^self", "a + ^\"\"", "^len", "len(^l2)", "^f"},
	} {
		for _, s := range l {
			fails(t, e, placed(strings.Replace(around, "actor Q(", "fun l2(): text = \"\" actor Q(", 1), s, ""))
		}
	}
	// Functions know neither the state variables of an actor nor its parameters.
	for _, name := range []string{"s", "l", "a", "n", "self"} {
		fails(t, api.ErrName, placed(around, "a", "")+" fun t(): int = ^"+name)
		fails(t, api.ErrName, placed(around, "a", "s = t()")+" fun t(): int = (fun(): int = ^"+name+")()")
	}
	fails(t, api.ErrName, decls+"actor X(a: int) { state b: int = (let c = 1 in c) state d: int = ^c }")
	fails(t, api.ErrName, decls+"actor X(a: int) { state b: int = a state d: int = ^b }")
	fails(t, api.ErrName, decls+"actor X(a: int) { on M() { b = ^a } state b: int = 1 }")
	fails(t, api.ErrType, decls+"actor X(a: int) { state b: ref Main = ^self }")
}

// badInts are expressions with the errors ErrName, ErrType, ErrTwice and ErrNeed, in this order.
func badInts() []string {
	return []string{"f(^nope)", "f(^true)", "(P { x = 1, ^x = 1, y = [] }).x", "(^match v() { C => 1 })"}
}

// ordered puts errors into the holes # of a source, of which the first one counts: for each hole, all holes from it on have an error, and those before it have none.
func ordered(t *testing.T, check func(t *testing.T, want api.Errno, s string), source string) {
	t.Helper()
	bad := badInts()
	for hole := range strings.Count(source, "#") {
		for k, want := range []api.Errno{api.ErrName, api.ErrType, api.ErrTwice, api.ErrNeed} {
			s := placed(source, append(slices.Repeat([]string{"1"}, hole), bad[k])...)
			for next := k + 1; strings.Contains(s, "#"); next++ {
				s = placed(s, strings.Replace(bad[next%len(bad)], "^", "", 1))
			}
			check(t, want, s)
		}
	}
}

// P10.1: of two errors in one expression, the first one as defined counts: subexpressions are processed in order.
func TestOrderInExpressions(t *testing.T) {
	for _, s := range []string{
		"# + #", "# - # * # / # % #", "f(#) + -#", "len([#, #, #])", "(let a = # in #) + #", "if # == # then # else #", "if # < # and # > # or not # != # then 1 else #", "P { x = #, y = [#, #] }.x", "P { y = [#], x = # }.x", "(p() with { y = [#], x = # }).x", "(P { x = #, y = [] } with { x = # }).x",
		"match A(#) { A(x) => #, _ => # }", "size(show(#) ++ show(#))", "len([[#], [#]] ++ [[#]])", "at([#, #], #) + len(put([#], #, #)) + len(slice([#], #, #)) + size(sub(show(#), #, #))", "(fun(x: int): int = #)(#)", "(if # == 1 then f else f)(#)", "match B(P { x = #, y = [#] }, show(#)) { A(_) => #, C => #, B(_, _) => # }",
	} {
		ordered(t, fails, decls+"fun t(): int = "+s)
	}
}

// P10.1: of two errors in statements, the first one as defined counts.
func TestOrderInStatements(t *testing.T) {
	for _, s := range []string{
		"let x = # s = # s = #", "if # == 1 { s = # } else { s = # } s = #", "match A(#) { A(x) { s = # s = # } _ { s = # } } s = #", "for i in [#] { s = # } s = #", "send (if # == 1 then self else self) Go(#, w)", "after # send (if # == 1 then w else w) Do(#, show(#))",
		"spawn Q(#) on # let k = spawn Q(#) on # let m = spawn Q(#)", "do pay(#) then Yes do tell(show(#), [A(#)]) then Unit", "fail show(#) fail show(#)",
	} {
		ordered(t, fails, placed(around, "a", s))
	}
}

// P10.1: declarations are checked in source order, and so are the members of an actor.
func TestOrderOfDeclarations(t *testing.T) {
	for _, s := range []string{
		"fun t(): int = # fun u(): int = #", "fun t(): int = # actor X() { state s: int = # on M() { s = # } state u: int = # on N() { s = # } } fun u(): int = # actor Y() { on M() { let x = # } state s: int = # } fun w(): int = #",
		"actor X() { on M() { let x = # } } record R { } fun t(): int = # variant S { S1 } effect e(): int actor Y() { state u: int = # }",
	} {
		ordered(t, fails, decls+s)
		ordered(t, fails, s+decls)
	}
}

// P10.1, P10.2: the errors of the parser come before all others, and so do those of the declarations.
func TestErrorsOfLowerLayers(t *testing.T) {
	const wrong = " fun t(): int = nope "
	for _, s := range []string{
		"", "fun", "fun t(): int = ", "\"", "1", "a b", "record P { x: int", "actor Main() { on M() { x } }", strings.Repeat(" ", api.MaxSource+1), decls + wrong + strings.Repeat(" ", api.MaxSource), decls + "fun t(): int = " + strings.Repeat("-", 50) + "1", decls + wrong + "fun u(): int = " + strings.Repeat("[", 50) + strings.Repeat("]", 50),
		decls + wrong + "\x00", decls + wrong + "012", decls + wrong + "}", decls + wrong + "fun u(): int = 9007199254740993", decls + wrong + "\"" + strings.Repeat("a", api.MaxText+1) + "\"", decls + wrong + "fun u(): in t", decls + wrong + "drop", decls + wrong + "convert type P(x: int) = ",
		wrong, "fun t(): int = 1", decls + wrong + "fun t(): int = 1", decls + wrong + "fun len(): int = 1", decls + wrong + "record P { }", decls + wrong + "fun u(x: int, x: int): int = x", decls + wrong + "fun u(x: Z): int = 1", decls + wrong + "effect e(g: fun(): int): int", decls + wrong + "actor X() restart 0 { }", decls + wrong + "actor X() restart 101 { }",
		decls + wrong + "record L { l: L }", strings.Replace(decls, "Main", "Mane", -1) + wrong, strings.Replace(decls, "Main()", "Main(x: int)", 1) + wrong,
	} {
		tree, e, at := syntax.Parse(s)
		if e == api.OK {
			_, e, at = types.Decls(tree)
		}
		if p, got, offset := check.Check(s); e == api.OK || got != e || offset != at || printed(p) != printed(api.Prog{}) {
			t.Errorf("%q: error %d at %d; want %d at %d", s, got, offset, e, at)
		}
		for _, changes := range []string{"", " drop X drop X move Nope to 9 convert type P(x: int) = nope"} {
			tree, e, at := syntax.Patch(s + changes)
			if e == api.OK {
				_, e, at = types.Decls(tree)
			}
			if got := patch(s + changes); e == api.OK || printed(got) != printed(outcome{e: e, at: at}) {
				t.Errorf("%q: %+v; want error %d at %d", s, got, e, at)
			}
		}
	}
	// A program has no changes.
	failsAsProgram(t, api.ErrForm, decls+"^drop W")
	failsAsProgram(t, api.ErrForm, decls+"^move W to 1")
	failsAsProgram(t, api.ErrForm, decls+wrong+"^convert type P(x: int) = P { x = 1, y = [] }")
}

// failsAsProgram checks a source that may be a patch file without errors.
func failsAsProgram(t *testing.T, want api.Errno, s string) {
	t.Helper()
	s, offset := marked(t, s)
	if p, e, at := check.Check(s); e != want || at != offset || printed(p) != printed(api.Prog{}) {
		t.Errorf("%s: error %d at %d", s, e, at)
	}
}
