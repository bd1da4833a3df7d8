package syntax

import (
	"slices"
	"strings"
	"testing"

	"retroact/api"
	"retroact/lex"
)

// failing checks that both parsers return an error and nothing else.
func failing(t *testing.T, s string, want api.Errno, offset int) {
	t.Helper()
	for start, parse := range parsers {
		if n, e, at := parse(s); e != want || at != offset || !equal(n, api.Node{}) {
			t.Errorf("%s %s: error %d at %d, %s; want %d at %d", start, brief(s), e, at, brief(show(n)), want, offset)
		}
	}
}

// marked takes the mark ^ out of a source, and returns its offset.
func marked(t *testing.T, s string) (string, int) {
	t.Helper()
	before, after, found := strings.Cut(s, "^")
	if !found || strings.Contains(after, "^") {
		t.Fatal("not one mark in", s)
	}
	return before + after, len(before)
}

// P8.1: the first token with which no tree can be formed, or the end of the source, at the mark ^.
func TestMisfits(t *testing.T) {
	for _, s := range []string{
		// Programs and declarations.
		"^x", "^1", "^\"record\"", "^(", "^}", "^Main", "^state s: int = 1", "^on M() { }", "^stop", "^let x = 1", "^restart", "^init",
		"record P { } ^1", "record P { } ^x", "fun f(): int = 1 ^2", "actor A() { } ^}", "effect e(): int ^= 1", "fun f(): int = x ^y",
		"record^", "record ^p { }", "record ^int { }", "record ^1", "record ^_", "record P^", "record P ^x", "record P ^( )", "record P ^= 1",
		"record P {^", "record P { ^X: int }", "record P { ^if: int }", "record P { ^1 }", "record P { ^, }", "record P { x^", "record P { x ^}",
		"record P { x ^= int }", "record P { x:^", "record P { x: ^}", "record P { x: int^", "record P { x: int ^y: int }", "record P { x: int ^; y: int }",
		"record P { x: int,^", "record P { x: int, ^}", "record P { x: int, ^, y: int }",
		"variant^", "variant ^v { A }", "variant V^", "variant V ^A", "variant V {^", "variant V { ^}", "variant V { ^a }", "variant V { ^int }",
		"variant V { A^", "variant V { A ^B }", "variant V { A ^: int }", "variant V { A,^", "variant V { A, ^}", "variant V { A(^", "variant V { A(^) }",
		"variant V { A(^x: int) }", "variant V { A(int^", "variant V { A(int ^bool) }", "variant V { A(int,^", "variant V { A(int, ^) }",
		"variant V { A(int) ^(int) }",
		"effect^", "effect ^E(): int", "effect ^fun(): int", "effect e^", "effect e ^: int", "effect e ^{ }", "effect e(^", "effect e(^int): int",
		"effect e(^A): int", "effect e(x ^): int", "effect e(x: int^", "effect e(x: int,^", "effect e(x: int, ^): int", "effect e()^", "effect e() ^= 1",
		"effect e() ^-> int", "effect e():^", "effect e(): ^x", "effect e(): ^1",
		"fun^", "fun ^F(): int = 1", "fun ^self(): int = 1", "fun ^(): int = 1", "fun f^", "fun f ^: int = 1", "fun f(^", "fun f(x: int^", "fun f()^",
		"fun f() ^= 1", "fun f():^", "fun f(): ^= 1", "fun f(): int^", "fun f(): int ^: 1", "fun f(): int ^{ }", "fun f(): int =^", "fun f(): int = // 1^",
		"fun f(): int =   ^", "fun f(): int = fun ^g(): int = 1", "fun f(): int ^== 1",
		"actor^", "actor ^a() { }", "actor A^", "actor A ^{ }", "actor A(^", "actor A(^1) { }", "actor A()^", "actor A() ^state", "actor A() ^= 1",
		"actor A() ^stop { }", "actor A() restart^", "actor A() restart ^{ }", "actor A() restart ^-1 { }", "actor A() restart ^n { }",
		"actor A() restart ^escalate { }", "actor A() restart 1^", "actor A() restart 1 ^2 { }", "actor A() restart 1 ^escalate { }", "actor A() escalate^",
		"actor A() escalate ^1 { }", "actor A() escalate ^restart 1 { }", "actor A() {^", "actor A() { ^x }", "actor A() { ^x = 1 }",
		"actor A() { ^fun f(): int = 1 }", "actor A() { ^let x = 1 }", "actor A() { ^, }", "actor A() { } ^on M() { }",
		"actor A() { state^", "actor A() { state ^S: int = 1 }", "actor A() { state ^state: int = 1 }", "actor A() { state s^",
		"actor A() { state s ^= 1 }", "actor A() { state s:^", "actor A() { state s: ^1 }", "actor A() { state s: int^", "actor A() { state s: int ^}",
		"actor A() { state s: int ^on M() { } }", "actor A() { state s: int =^", "actor A() { state s: int = ^}", "actor A() { state s: int = 1^",
		"actor A() { state s: int = 1 ^, }", "actor A() { state s: int = 1 ^x = 1 }",
		"actor A() { on^", "actor A() { on ^m() { } }", "actor A() { on ^init() { } }", "actor A() { on ^_() { } }", "actor A() { on M^",
		"actor A() { on M ^{ } }", "actor A() { on M(^", "actor A() { on M(x^) { } }", "actor A() { on M(^1) { } }", "actor A() { on M()^",
		"actor A() { on M() ^stop }", "actor A() { on M() ^}", "actor A() { on M() ^: int { } }", "actor A() { on M() {^", "actor A() { on M() { }^",
		"actor A() { on M() { } ^; }",
		// Types.
		"fun f(): ^x = 1", "fun f(): ^( = 1", "fun f(): ^list = 1", "fun f(): ^\"int\" = 1", "fun f(): ^_ = 1", "fun f(): ^true = 1", "fun f(): [^",
		"fun f(): [^] = 1", "fun f(): [int^", "fun f(): [int^, int] = 1", "fun f(): [int ^) = 1", "fun f(): ref^", "fun f(): ref ^a = 1",
		"fun f(): ref ^int = 1", "fun f(): ref ^ref A = 1", "fun f(): ref ^= 1", "fun f(): ref ^[A] = 1", "fun f(): fun^", "fun f(): fun ^: int = 1",
		"fun f(): fun ^f(): int = 1", "fun f(): fun(^", "fun f(): fun(^x: int): int = 1", "fun f(): fun(int^", "fun f(): fun(int,^",
		"fun f(): fun(int, ^): int = 1", "fun f(): fun(^, int): int = 1", "fun f(): fun(int ^int): int = 1", "fun f(): fun()^", "fun f(): fun() ^= 1",
		"fun f(): fun():^", "fun f(): fun(): ^= 1", "fun f(): int ^int = 1", "fun f(): P^(int) = 1",
	} {
		source, offset := marked(t, s)
		failing(t, source, api.ErrForm, offset)
	}
}

// P8.1: the same in statements.
func TestMisfitsInStatements(t *testing.T) {
	for _, s := range []string{
		"^1", "^(x)", "f^(1)", "^X", "^M()", "^\"stop\"", "^;", "^_ = 1", "^{ }", "^self", "^true", "^state s: int = 1", "^on M() { }", "^else { }", "^in",
		"^then", "^restart", "^not x", "^fun f(): int = 1",
		"let ^X = 1", "let ^1", "let ^_ = 1", "let ^let x = 1", "let ^= 1", "let x ^1", "let x ^: int = 1", "let x ^== 1", "let x = ^}", "let x = ^stop",
		"let x = ^= 1", "let x = 1 ^in 2", "let x = 1 ^, y = 2", "let x = ^send y M()",
		"let x = spawn ^b()", "let x = spawn ^}", "let x = spawn B ^}", "let x = spawn B() ^+ 1", "let x = spawn B() ^.y", "let x = spawn B() on ^}",
		"let x = (^spawn B())", "let x = 1 + ^spawn B()", "let x = let y = ^spawn B() in y",
		"spawn ^b()", "spawn ^self", "spawn ^spawn", "spawn B ^{ }", "spawn B ^x", "spawn B ^on 1", "spawn B(^,)", "spawn B(1 ^2)", "spawn B(1, ^)",
		"spawn B() ^(1)", "spawn B() on ^}", "spawn B() on ^on", "spawn B() on 1 ^on 2", "spawn B() on ^spawn C()", "spawn B() ^then M", "x = ^spawn B()",
		"x ^1", "x ^}", "x ^(1)", "x ^.y = 1", "x ^: int = 1", "x ^== 1", "x ^+= 1", "x = ^}", "x = ^= 1", "x = 1 ^= 2", "x = y ^= 1", "x = 1 ^1",
		"x = 1 ^, y = 2", "x = 1 ^; y = 2", "x = 1 ^_", "x = 1 ^Y", "^X = 1", "if ^= 1",
		"if ^}", "if ^{ }", "if a ^stop", "if a ^}", "if a ^then b", "if a ^= b { }", "if a { } else ^}", "if a { } else ^if b { }", "if a { } else ^stop",
		"if a { } else { } ^else { }", "if a { } ^{ }", "if a { } ^then { }", "if (a ^{ }", "if P { }^.x { }",
		"if P { x = 1 } ^{ }", "if P { }x ^{ }", "if a == P { x = 1 ^, y = 2 } { }", "if P { ^P { } }", "if let x = P ^{ } in x { }",
		"if if P ^{ } then a else b { }", "if if a then P ^{ } else b { }", "if [P { } ^{ }", "if f(P { }, ^) { }",
		"match ^}", "match ^{ }", "match a ^}", "match a ^stop", "match a { ^}", "match a { ^x { } }", "match a { ^1 { } }", "match a { ^( { } }",
		"match a { ^{ } }", "match a { ^self { } }", "match a { _ ^}", "match a { _ ^=> 1 }", "match a { _ ^(x) { } }", "match a { _ ^stop }",
		"match a { C ^}", "match a { C ^x { } }", "match a { C ^=> 1 }", "match a { C(^) { } }", "match a { C(^D) { } }", "match a { C(^1) { } }",
		"match a { C(^int) { } }", "match a { C(x ^y) { } }", "match a { C(x, ^) { } }", "match a { C(x ^: int) { } }", "match a { C(x) ^}",
		"match a { C(x) ^(y) { } }", "match a { C(_ ^_) { } }", "match a { C { } ^, D { } }", "match a { C { } ^d { } }",
		"for ^X in a { }", "for ^in a { }", "for ^_ in a { }", "for ^1", "for x ^a { }", "for x ^= a { }", "for x in ^}", "for x in ^{ }", "for x in a ^}",
		"for x in a ^stop", "for x in a ^, b { }", "for x in P { x = 1 } ^{ }",
		"send ^}", "send ^send", "send x ^}", "send x ^m()", "send x M ^}", "send x M ^.y", "send x M ^{ }", "send x M(^,)", "send x M(1 ^2)",
		"send x M(1, ^)", "send x M() ^(1)", "send x M() ^on 1", "send X ^}", "send X(1) ^}", "send x ^1", "send M ^}",
		"after ^}", "after ^send x M()", "after 1 ^}", "after 1 ^stop", "after 1 ^M()", "after 1 ^after 2 send x M()", "after 1 send ^}",
		"after 1 send x ^}", "after 1 ^spawn B()",
		"do ^E() then M", "do ^then M", "do ^if() then M", "do e ^then M", "do e ^{ }", "do e(^,) then M", "do e(1 ^2) then M", "do e(1, ^) then M",
		"do e() ^M", "do e() ^}", "do e() ^on M", "do e() then ^m", "do e() then ^init", "do e() then ^}", "do e() then ^_", "do e() then M ^()",
		"do e() then M ^{ }",
		"stop ^1", "stop ^()", "stop ^;", "stop ^, stop", "stop ^\"x\"",
		"fail ^}", "fail ^fail", "fail \"x\" ^\"y\"", "fail \"x\" ^, 1", "fail 1 ^_",
	} {
		source, offset := marked(t, "actor A() { on M() { "+s+" } }")
		failing(t, source, api.ErrForm, offset)
	}
}

// P8.1: the same in expressions.
func TestMisfitsInExpressions(t *testing.T) {
	for _, s := range []string{
		"^", "^_", "^?", "^;", "^:", "^=", "^,", "^)", "^]", "^}", "^{ }", "^.x", "^+ 1", "^* 1", "^== 1", "^and 1", "^or 1", "^=> 1", "^:- 1", "^in",
		"^then", "^else", "^with { x = 1 }", "^ref A", "^int", "^unit", "^state", "^send", "^spawn A()", "^on", "^do e() then M", "^stop", "^for",
		"^restart", "^escalate", "^after 1",
		"1 ^1", "x ^y", "x ^1", "x ^\"s\"", "x ^true", "x ^not y", "x ^[1]", "x ^{ }", "x ^= 1", "x ^: int", "x ^; y", "x ^?", "x ^_", "x ^=> 1", "\"a\" ^\"b\"", "x ^Y",
		"let ^X = 1 in 2", "let ^_ = 1 in 2", "let ^", "let x ^in 1", "let x ^: int = 1 in 2", "let x = ^in 1", "let x = 1^", "let x = 1 ^; 2",
		"let x = 1 ^x", "let x = 1 in^", "let x = 1 in ^)", "let x = 1 in ^in 2", "let x = ^spawn A() in x", "let x = 1 ^, y = 2 in x",
		"1 + ^let x = 1 in x", "-^let x = 1 in x", "not ^let x = 1 in x", "a and ^let x = 1 in x", "a or ^let x = 1 in x", "a == ^let x = 1 in x",
		"a ++ ^let x = 1 in x",
		"if^", "if ^then 1 else 2", "if a^", "if a ^{ }", "if a ^else 1", "if a then^", "if a then ^else 1", "if a then 1^", "if a then 1 else^",
		"if a then 1 else ^else 2", "1 * ^if a then b else c", "- ^if a then b else c", "a or ^if a then b else c", "if a then b else c ^else d",
		"match^", "match ^{ }", "match a^", "match a ^}", "match a ^=> 1", "match a {^", "match a { ^}", "match a { ^x => 1 }", "match a { ^1 => 1 }",
		"match a { ^, }", "match a { _^", "match a { _ ^: 1 }", "match a { _ ^{ } }", "match a { _ ^= 1 }", "match a { _ ^(x) => 1 }", "match a { _ =>^",
		"match a { _ => ^}", "match a { _ => ^, }", "match a { _ => 1^", "match a { _ => 1 ^B => 2 }", "match a { _ => 1 ^; B => 2 }", "match a { _ => 1,^",
		"match a { _ => 1, ^}", "match a { C ^1 }", "match a { C(^) => 1 }", "match a { C(x^", "match a { C(x, ^) => 1 }", "match a { C(^D(x)) => 1 }",
		"match a { C(^\"s\") => 1 }", "match a { C(^true) => 1 }", "match a { C(x) ^(y) => 1 }", "match a { _ => 1 } ^.x", "match a { _ => 1 } ^+ 1",
		"match a { _ => 1 } ^(2)", "match a { _ => 1 } ^with { x = 1 }", "1 + ^match a { _ => 1 }", "-^match a { _ => 1 }", "f.^match",
		"match P { ^x = 1 } { _ => 1 }", "match P { A => P { } } ^{ B => 1 }", "match a == P { ^x = 1 }", "match let x = P ^{ } in x { _ => 1 }",
		"match if P ^{ } then a else b { _ => 1 }", "match fun(): P ^{ }", "match (P { }) ^}", "match a with { ^} { _ => 1 }",
		"fun^", "fun ^: int = 1", "fun(^", "fun(^1): int = 1", "fun(x ^): int = 1", "fun(x: int ^= 1): int = 1", "fun()^", "fun() ^= 1", "fun() ^=> 1",
		"fun():^", "fun(): ^1", "fun(): int^", "fun(): int ^=> 1", "fun(): int =^", "fun(): int = ^)", "1 + ^fun(): int = 1", "not ^fun(): int = 1",
		"a or^", "a or ^or b", "a or ^)", "a and^", "a and ^and b", "a ^not b", "not^", "not ^)", "not ^or", "a == ^not b", "a + ^not b", "- ^not a",
		"a ++ ^not b", "a * ^not b", "a < ^not b",
		"a <^", "a < ^< b", "a < b ^< c", "a == b ^== c", "a < b ^== c", "a == b ^< c", "a != b ^!= c", "a <= b ^>= c", "a >= b ^> c", "a > b ^<= c",
		"not a == b ^== c", "a + b == c ++ d ^!= e", "a and b < c ^< d", "a == ^== b", "a == b or c == d ^== e",
		"a ++^", "a ++ ^++ b", "a +^", "a + ^+ b", "a - ^* b", "a *^", "a * ^* b", "a / ^% b", "a * ^)", "-^", "- ^)", "- ^+ 1",
		"f(^", "f(^,)", "f(1^", "f(1 ^2)", "f(1,^", "f(1, ^)", "f(1)^]", "f(^]", "x.^", "x.^X", "x.^1", "x.^if", "x.^(1)", "x.y.^", "x ^,", "1.^5",
		"x with^", "x with ^(1)", "x with ^y", "x with {^", "x with { ^}", "x with { ^X = 1 }", "x with { ^1 }", "x with { y^", "x with { y ^}",
		"x with { y ^: 1 }", "x with { y =^", "x with { y = ^}", "x with { y = 1^", "x with { y = 1 ^z = 2 }", "x with { y = 1 ^; z = 2 }",
		"x with { y = 1,^", "x with { y = 1, ^}",
		"(^", "(1^", "(1 ^2)", "(1^, 2)", "(^,)", "(1^]", "()^]", "([^)", "[^", "[^,]", "[1^", "[1 ^2]", "[1,^", "[1, ^]", "[1^)", "[1 ^; 2]",
		"C(^", "C(^)", "C(^,)", "C(1^", "C(1 ^2)", "C(1,^", "C(1, ^)", "C ^C", "C ^1", "C ^[1]", "(C)(^", "P {^", "P { ^X = 1 }", "P { ^1 }", "P { ^, }",
		"P { x^", "P { x ^}", "P { x ^: 1 }", "P { x ^== 1 }", "P { x =^", "P { x = ^}", "P { x = 1^", "P { x = 1 ^y = 2 }", "P { x = 1,^", "P { x = 1, ^}",
		"P { } ^{ }", "C(1) ^{ }", "x ^{ }", "P { x = Q { } ^{ } }",
		"self ^self", "self ^x", "true ^false", "() ^x", "() ^[1]",
	} {
		source, offset := marked(t, "fun f(): int = "+s)
		failing(t, source, api.ErrForm, offset)
	}
}

// P8.1: the same in changes. In a program, no change is possible.
func TestMisfitsInChanges(t *testing.T) {
	for _, s := range []string{
		"^x", "^type P() = 1", "^message", "^to", "^init", "^converts", "convert^", "convert ^x", "convert ^P() = 1", "convert ^record P { }",
		"convert ^fun", "convert ^1", "convert ^move A to 1", "convert ^convert",
		"convert type^", "convert type ^p() = 1", "convert type ^int() = 1", "convert type ^(", "convert type P^", "convert type P ^= 1",
		"convert type P ^{ }", "convert type P(^", "convert type P(^int) = 1", "convert type P(x^) = 1", "convert type P(x: int^",
		"convert type P(x: int, ^) = 1", "convert type P()^", "convert type P() ^: int = 1", "convert type P() ^{ }", "convert type P() =^",
		"convert type P() = ^}", "convert type P.^", "convert type P.^a() = 1", "convert type P.^init() = 1", "convert type P.A^", "convert type P.A ^= 1",
		"convert type P.A^.B() = 1", "convert type P.A()^", "convert type P() = 1 ^2",
		"convert actor^", "convert actor ^a() { }", "convert actor A^", "convert actor A ^{ }", "convert actor A^.B() { }", "convert actor A(^",
		"convert actor A()^", "convert actor A() ^= 1", "convert actor A() {^", "convert actor A() { ^X = 1 }", "convert actor A() { x^",
		"convert actor A() { x ^}", "convert actor A() { x = ^}", "convert actor A() { x = 1 ^y = 2 }", "convert actor A() { x = 1, ^}",
		"convert actor A() { ^state s: int = 1 }",
		"convert message^", "convert message ^a.M() = M()", "convert message A^", "convert message A ^() = M()", "convert message A.^",
		"convert message A.^m() = M()", "convert message A.^_() = M()", "convert message A.^state() = M()", "convert message A.M^",
		"convert message A.M ^= M()", "convert message A.M(^", "convert message A.M(^1) = M()", "convert message A.M()^",
		"convert message A.M() ^: int = M()", "convert message A.M() =^", "convert message A.M() = ^m()", "convert message A.M() = ^1",
		"convert message A.M() = M^", "convert message A.M() = M ^{ }", "convert message A.M() = M(^", "convert message A.M() = M(^,)",
		"convert message A.M() = M(1^", "convert message A.M() = M(1 ^2)", "convert message A.M() = M(1, ^)", "convert message A.M() = M() ^+ 1",
		"convert message A.M() = M() ^(1)", "convert message A.init^", "convert message A.init() = init^",
		"move^", "move ^a to 1", "move ^to to 1", "move A^", "move A ^1", "move A ^in 1", "move A ^then 1", "move A to^", "move A to ^x", "move A to ^-1",
		"move A to ^B", "move A to ^\"1\"", "move A to 1 ^1", "move A to 1 ^, B to 2", "move A to 1 ^+ 1",
		"drop^", "drop ^a", "drop ^1", "drop ^drop A", "drop A ^B", "drop A ^, B", "drop A ^1", "drop A ^()",
		"fun f(): int = 1 ^to", "record P { } ^actors", "actor A() { ^drop A }", "actor A() { ^convert type P() = 1 }",
	} {
		source, offset := marked(t, s)
		misfits(t, "patch", source, offset)
		if n, e, at := Parse(source); e != api.ErrForm || at > offset || !equal(n, api.Node{}) {
			t.Errorf("Parse(%s): error %d at %d, %s", source, e, at, show(n))
		}
	}
	for _, r := range changeRows()[:13] {
		misfits(t, "program", r.s, 0)
		misfits(t, "program", "record P { }\n"+r.s, 13)
		misfits(t, "program", "fun f(): int = 1 "+r.s, 17)
	}
}

// P8.1: each place of a name in the grammar takes every name of its sort, none of the other sort, and no reserved word.
func TestNames(t *testing.T) {
	const statements = "if let match for send after spawn do stop fail"
	lower := []string{
		"effect ^(): int", "fun ^(): int = 1", "record P { ^: int }", "record P { x: int, ^: int }", "fun f(^: int): int = 1", "actor A() { state ^: int = 1 }",
		"actor A() { on M() { let ^ = 1 } }", "actor A() { on M() { let ^ = spawn B() } }", "actor A() { on M() { for ^ in x { } } }", "actor A() { on M() { do ^() then M } }",
		"fun f(): int = let ^ = 1 in 2", "fun f(): int = x.^", "fun f(): int = P { ^ = 1 }", "fun f(): int = x with { ^ = 1 }", "fun f(): int = fun(^: int): int = 1",
		"fun f(): int = match x { C(^) => 1 }", "fun f(): int = match x { C(_, ^) => 1 }", "actor A() { on M() { match x { C(^) { } } } }",
		"convert actor A() { ^ = 1 }", "convert type P(^: int) = 1",
	}
	upper := []string{
		"record ^ { }", "variant ^ { A }", "variant V { ^ }", "variant V { A, ^(int) }", "actor ^() { }", "actor A() { on ^() { } }", "fun f(): ref ^ = 1",
		"actor A() { on M() { spawn ^() } }", "actor A() { on M() { let x = spawn ^() } }", "actor A() { on M() { do e() then ^ } }",
		"actor A() { on M() { match x { ^ { } } } }", "fun f(): int = match x { ^ => 1 }", "fun f(): int = match x { ^(y) => 1 }",
		"convert type ^() = 1", "convert type V.^() = 1", "convert actor ^() { }", "convert message ^.M() = M()", "move ^ to 1", "drop ^",
	}
	messages := []string{"convert message A.^() = M()", "convert message A.M() = ^()"}
	types := []string{"fun f(): ^ = 1", "record P { x: ^ }", "variant V { A(^) }", "fun f(): [^] = 1", "fun f(): fun(bool, ^): int = 1"}
	for _, x := range slices.Concat(strings.Fields(reservedWords), strings.Fields("a z x_1 aB init convert type message move to drop iff recordx in_ A Z Main A_1 If Int Self")) {
		low := fits("low", wordToken(x))
		up := fits("up", wordToken(x))
		takes(t, lower, x, low, "")
		takes(t, []string{"actor A() { on M() { ^ = 1 } }"}, x, low, statements)
		takes(t, upper, x, up, "")
		takes(t, []string{"actor A() { on M() { send x ^() } }"}, x, up, "with and or")
		takes(t, messages, x, up || x == "init", "")
		takes(t, types, x, up || slices.Contains([]string{"int", "bool", "text", "unit"}, x), "ref fun")
		primary := low || up || x == "true" || x == "false" || x == "self"
		takes(t, []string{"fun f(): int = ^", "fun f(): int = g(^)"}, x, primary, "let if match fun not")
		takes(t, []string{"fun f(): int = not ^", "fun f(): int = a and ^"}, x, primary, "not")
		takes(t, []string{"fun f(): int = 1 + ^", "fun f(): int = a < ^", "fun f(): int = - ^"}, x, primary, "")
	}
}

// takes checks that a word is possible at the mark ^ of sources, or is an error there unless it is one of some others, with which another form begins.
func takes(t *testing.T, sources []string, word string, possible bool, others string) {
	t.Helper()
	for _, c := range sources {
		before, after, _ := strings.Cut(c, "^")
		s := before + word + after
		n, e, at := Patch(s)
		switch {
		case possible && e != api.OK:
			t.Errorf("%s: error %d at %d", s, e, at)
		case !possible && (e != api.ErrForm || !equal(n, api.Node{})):
			t.Errorf("%s: error %d at %d, %s", s, e, at, show(n))
		case !possible && (at > len(before)) != slices.Contains(strings.Fields(others), word):
			t.Errorf("%s: error at %d", s, at)
		}
	}
}

// P8.1: the errors of the scanner come first, with their offsets, wherever they are.
func TestScannerErrors(t *testing.T) {
	for _, c := range []struct {
		s  string
		e  api.Errno
		at int
	}{
		{"!", api.ErrForm, 0}, {"fun f(): int = 007", api.ErrForm, 15}, {"fun f(): int = 1a", api.ErrForm, 15}, {"fun f(): int = 9007199254740993", api.ErrRange, 15},
		{"actor A() restart 9007199254740993 { }", api.ErrRange, 18}, {"fun f(): int = \"a", api.ErrForm, 15}, {"fun f(): int = \"\\x\"", api.ErrForm, 15},
		{"fun f(): int = \"" + strings.Repeat("a", api.MaxText+1) + "\"", api.ErrSize, 15},
		{"fun f(): int = 1 & 2", api.ErrForm, 17}, {"fun f(): int = \xc3\xa4", api.ErrForm, 15}, {"record P { } #", api.ErrForm, 13},
		// An error of the parser that is further left counts less.
		{"x x x 007", api.ErrForm, 6}, {"fun fun 9007199254740993", api.ErrRange, 8}, {") \"", api.ErrForm, 2},
		{"record p { } \"" + strings.Repeat("a", api.MaxText+1) + "\"", api.ErrSize, 13}, {"1 2 3 !", api.ErrForm, 6},
		// And so does one of depth.
		{"fun f(): int = " + strings.Repeat("-", 50) + "1 01", api.ErrForm, 67},
	} {
		failing(t, c.s, c.e, c.at)
		if _, e, at := lex.Scan(c.s); e != c.e || at != c.at {
			t.Errorf("Scan(%s): error %d at %d", brief(c.s), e, at)
		}
	}
}

// P8.1: a source of 32768 bytes, and of one byte more.
func TestSourceSize(t *testing.T) {
	list := "fun f(): int = [" + strings.Repeat("1,", (api.MaxSource-18)/2) + "1]"
	many := strings.Repeat("drop A ", api.MaxSource/7) + strings.Repeat(" ", api.MaxSource%7)
	for _, s := range []string{
		strings.Repeat(" ", api.MaxSource), "//" + strings.Repeat("!", api.MaxSource-2), "record P { }" + strings.Repeat("\n", api.MaxSource-12),
		strings.Repeat(" ", api.MaxSource-6) + "drop A", list + strings.Repeat(" ", api.MaxSource-len(list)), many,
		"fun f(): int = " + strings.Repeat("n", api.MaxSource-15), "fun f(): int = " + strings.Repeat("(", 16376) + "1" + strings.Repeat(")", 16376),
	} {
		if len(s) != api.MaxSource {
			t.Fatal(len(s), brief(s))
		}
		n, e, at := Patch(s)
		if e != api.OK || at != 0 || !Right(n) {
			t.Errorf("%s: error %d at %d", brief(s), e, at)
		}
		for _, more := range []string{s + " ", " " + s, s + "x", "!" + s, s + s} {
			failing(t, more, api.ErrSize, 0)
		}
	}
	n, _, _ := Patch(many)
	if len(n.Kids) != api.MaxSource/7 || n.Kids[1000].At != 7000 {
		t.Error(len(n.Kids), "kids")
	}
	n, _, _ = Parse(list)
	if l := n.Kids[0].Kids[1].Kids; len(l) != (api.MaxSource-18)/2+1 || l[100].At != 216 {
		t.Error(len(l), "elements")
	}
	// What is written is longer, so that it can be written, but not parsed.
	if s := Write(n); len(s) <= api.MaxSource || len(Tokens(n)) != 2*len(n.Kids[0].Kids[1].Kids)+8 {
		t.Error(len(s), len(Tokens(n)))
	} else {
		failing(t, s, api.ErrSize, 0)
	}
}

// P8.1, P1: sources that are nested as deeply as they may be long.
func TestLongNesting(t *testing.T) {
	for _, c := range []struct {
		open, middle, close string
		e                   api.Errno
		// at is the offset within the first of the nested forms, or -1 for the end of the source.
		at int
	}{
		{"(", "1", ")", api.OK, 0},
		{"(", "", "", api.ErrForm, -1}, {"[", "", "", api.ErrForm, -1}, {"-", "", "", api.ErrForm, -1}, {"not ", "", "", api.ErrForm, -1},
		{"f(", "", "", api.ErrForm, -1}, {"C(", "", "", api.ErrForm, -1},
		{"P{a=", "", "", api.ErrForm, -1}, {"match ", "", "", api.ErrForm, -1}, {"match(", "", "", api.ErrForm, -1}, {"if ", "", "", api.ErrForm, -1},
		{"let a=", "", "", api.ErrForm, -1}, {"let a=1 in ", "", "", api.ErrForm, -1}, {"fun():int=", "", "", api.ErrForm, -1},
		{"x with{a=", "", "", api.ErrForm, -1}, {"1+(", "", "", api.ErrForm, -1},
		{"[", "1", "]", api.ErrDeep, 39}, {"-", "1", "", api.ErrDeep, 39}, {"not ", "1", "", api.ErrDeep, 156}, {"C(", "1", ")", api.ErrDeep, 78},
		{"f(", "1", ")", api.ErrDeep, 76}, {"1+(", "1", ")", api.ErrDeep, 114},
		{"", "1", "+1", api.ErrDeep, 0}, {"", "x", ".x", api.ErrDeep, 0}, {"", "x", "()", api.ErrDeep, 0}, {"", "x", " with{x=1}", api.ErrDeep, 0},
		{"let a=1 in ", "1", "", api.ErrDeep, 38*11 + 6}, {"let a=", "1", " in 1", api.ErrDeep, 39 * 6},
	} {
		count := (api.MaxSource - 16) / (len(c.open) + len(c.close))
		s := "fun f(): int = " + strings.Repeat(c.open, count) + c.middle + strings.Repeat(c.close, count)
		switch {
		case c.e == api.OK:
			if n, e, at := Parse(s); e != api.OK || !equal(n.Kids[0].Kids[1], api.Node{Kind: KInt, N: 1, At: 15 + count}) {
				t.Errorf("%s: error %d at %d", brief(s), e, at)
			}
		case c.at < 0:
			failing(t, s, c.e, len(s))
		default:
			failing(t, s, c.e, 15+c.at)
		}
	}
}

// wrapped returns the tree of a source in which an expression at an offset has minus signs before it.
func wrapped(x api.Node, count int) api.Node {
	for k := range count {
		x = api.Node{Kind: KNeg, At: 15 + count - 1 - k, Kids: []api.Node{x}}
	}
	return x
}

// P8.1: the first node in pre-order that is too deep, for expressions of every form at each depth.
func TestDepthOfExpressions(t *testing.T) {
	for _, r := range append(expressionRows(), headRows()...) {
		plain := parsed(t, "fun f(): int = "+r.s, true)
		for count := 30; count <= 42; count++ {
			inner := moved(plain.Kids[0].Kids[1], -count-1)
			body := wrapped(inner, count)
			want := deepCopy(plain)
			want.Kids[0].Kids[1] = body
			yields(t, "program", "fun f(): int = "+strings.Repeat("-", count)+"("+r.s+")", want)
			asWritten(t, want)
		}
	}
}

// P8.1: the same for types and statements.
func TestDepthOfTypesAndStatements(t *testing.T) {
	for _, r := range typeRows() {
		plain := parsed(t, "fun f(): "+r.s+" = 1", true)
		for count := 34; count <= 42; count++ {
			x := moved(plain.Kids[0].Kids[0], -count)
			for k := range count {
				x = api.Node{Kind: KTypeList, At: 9 + count - 1 - k, Kids: []api.Node{x}}
			}
			want := deepCopy(plain)
			want.Kids[0].Kids[0] = x
			want.Kids[0].Kids[1].At += 2 * count
			yields(t, "program", "fun f(): "+strings.Repeat("[", count)+r.s+strings.Repeat("]", count)+" = 1", want)
		}
	}
	const open = "if a { "
	for _, r := range statementRows() {
		plain := parsed(t, "actor A() { on M() { "+r.s+" } }", true)
		for count := 14; count <= 20; count++ {
			block := moved(plain.Kids[0].Kids[0].Kids[0], -count*len(open))
			for k := range count {
				at := 21 + (count-1-k)*len(open)
				x := api.Node{Kind: KSIf, At: at, Kids: []api.Node{{Kind: KName, Text: "a", At: at + 3}, block}}
				block = api.Node{Kind: KBlock, At: at - 2, Kids: []api.Node{x}}
			}
			want := deepCopy(plain)
			want.Kids[0].Kids[0].Kids[0] = block
			yields(t, "program", "actor A() { on M() { "+strings.Repeat(open, count)+r.s+strings.Repeat(" }", count)+" } }", want)
			asWritten(t, want)
		}
	}
}

// P8.1: trees of depth 40 and of depth 41; of several errors, the first one counts.
func TestDepth(t *testing.T) {
	minus := func(count int) string { return strings.Repeat("-", count) + "1" }
	for _, s := range []string{
		"fun f(): int = " + minus(38), "fun f(): int = " + minus(37) + " + " + minus(37), "actor A() { state s: int = " + minus(37) + " }",
		"actor A() { on M() { x = " + minus(35) + " } }",
		"convert type P() = " + minus(38), "convert message A.M() = M(" + minus(37) + ")", "convert actor A() { x = " + minus(37) + " }",
	} {
		if n, e, at := Patch(s); e != api.OK || at != 0 || depthOf(n) != api.MaxNest || !Right(n) {
			t.Errorf("%s: error %d at %d", s, e, at)
		}
	}
	for _, c := range []struct {
		s string
		e api.Errno
	}{
		{"fun f(): int = " + strings.Repeat("-", 39) + "^1", api.ErrDeep},
		{"fun f(): int = " + strings.Repeat("-", 39) + "^x.y", api.ErrDeep},
		{"fun f(): int = " + strings.Repeat("-", 39) + "^(x).y", api.ErrDeep},
		{"fun f(): int = " + strings.Repeat("-", 39) + "(^x)", api.ErrDeep},
		{"fun f(): int = " + strings.Repeat("-", 38) + "((^x) + y)", api.ErrDeep},
		{"fun f(): int = " + strings.Repeat("-", 38) + "((^x + z) + y)", api.ErrDeep},
		{"fun f(): int = " + strings.Repeat("-", 38) + "((^(x) + z) + y)", api.ErrDeep},
		{"fun f(): int = " + strings.Repeat("-", 38) + "(^x + y)", api.ErrDeep},
		{"fun f(): int = " + strings.Repeat("-", 39) + "^" + minus(21), api.ErrDeep},
		{"fun f(): int = " + minus(38) + " fun g(): int = " + strings.Repeat("-", 39) + "^2", api.ErrDeep},
		{"fun f(): int = " + strings.Repeat("-", 39) + "^1 fun g(): int = " + minus(39), api.ErrDeep},
		{"fun f(): int = [" + minus(37) + ", " + strings.Repeat("-", 38) + "^2, " + minus(50) + "]", api.ErrDeep},
		// The right operand is deeper, but what is too deep in the left one comes first.
		{"fun f(): int = " + strings.Repeat("-", 38) + "^1 * " + minus(50), api.ErrDeep},
		{"actor A() { state s: int = " + strings.Repeat("-", 38) + "^1 on M() { } }", api.ErrDeep},
		// What cannot be a tree at all counts more than what is too deep.
		{"fun f(): int = " + minus(50) + " ^2", api.ErrForm},
		{"fun f(): int = " + minus(50) + " fun ^G", api.ErrForm},
		{"fun f(): int = " + minus(50) + " +^", api.ErrForm},
		{"^x fun f(): int = " + minus(50), api.ErrForm},
		// Of two errors of form the first one counts.
		{"record ^p { ) } 1 2", api.ErrForm}, {"fun f(): int = ^) ]", api.ErrForm}, {"actor A() { on M() { x = ^} y = } }", api.ErrForm},
	} {
		source, offset := marked(t, c.s)
		failing(t, source, c.e, offset)
	}
	// A message of a converter and its arguments, and the fields of a converter.
	for _, s := range []string{
		"convert message A.M() = M(" + strings.Repeat("-", 38) + "^1)",
		"convert type P(x: " + strings.Repeat("[", 38) + "^int" + strings.Repeat("]", 38) + ") = 1",
		"convert actor A() { x = " + strings.Repeat("-", 38) + "^1 }",
	} {
		source, offset := marked(t, s)
		if n, e, at := Patch(source); e != api.ErrDeep || at != offset || !equal(n, api.Node{}) {
			t.Errorf("%s: error %d at %d", source, e, at)
		}
	}
}
