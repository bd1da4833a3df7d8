package syntax

import (
	"math"
	"slices"
	"strings"
	"testing"

	"retroact/api"
	"retroact/lex"
)

// P8.3: what is written of a program, with parentheses in exactly the cases of the chapter.
func TestWrite(t *testing.T) {
	for _, c := range [][2]string{
		{"", ""}, {" // c\n", ""},
		{"record P{x:int,y:[ref A]}", "record P { x : int , y : [ ref A ] }"},
		{"variant V{A,B(int,fun():unit)}", "variant V { A , B ( int , fun ( ) : unit ) }"},
		{"effect e(a:text):bool", "effect e ( a : text ) : bool"},
		{"actor A(n:int)restart 2{state s:int=1 on M(){}}", "actor A ( n : int ) restart 2 { state s : int = 1 on M ( ) { } }"},
		{"actor A()escalate{} actor B(){}", "actor A ( ) escalate { } actor B ( ) { }"},
		{"actor A() restart 0 { } actor B() restart 9007199254740992 { }", "actor A ( ) restart 0 { } actor B ( ) restart 9007199254740992 { }"},
	} {
		if got := Write(parsed(t, c[0], true)); got != c[1] {
			t.Errorf("%s is written as %s; want %s", c[0], got, c[1])
		}
	}
	for _, c := range [][2]string{
		{"convert type P(x:int)=(x)", "convert type P ( x : int ) = x"}, {"convert type V.A()=B(1)", "convert type V . A ( ) = B ( 1 )"},
		{"convert actor A(n:int){a=n,b=(1+2)*3}", "convert actor A ( n : int ) { a = n , b = ( 1 + 2 ) * 3 }"}, {"convert actor A(){}", "convert actor A ( ) { }"},
		{"convert message A.M(x:int)=init(x,0)", "convert message A . M ( x : int ) = init ( x , 0 )"},
		{"convert message A.init()=M()", "convert message A . init ( ) = M ( )"},
		{"move A to 0 drop B", "move A to 0 drop B"},
	} {
		if got := Write(parsed(t, c[0], false)); got != c[1] {
			t.Errorf("%s is written as %s; want %s", c[0], got, c[1])
		}
	}
}

// P8.3: the same for statements: every head has parentheses, and no other place of an expression has any.
func TestWriteStatements(t *testing.T) {
	for _, c := range [][2]string{
		{"", "{ }"}, {"stop stop", "{ stop stop }"},
		{"let x=(1+2)", "{ let x = 1 + 2 }"}, {"x=(let y=1 in y)", "{ x = let y = 1 in y }"}, {"x=(if a then b else c) y=C z=d", "{ x = if a then b else c y = C z = d }"},
		{"if a{}", "{ if ( a ) { } }"}, {"if (a) {stop}else{}", "{ if ( a ) { stop } else { } }"}, {"if ((a or b)) { }", "{ if ( a or b ) { } }"},
		{"if (P { }) { }", "{ if ( P { } ) { } }"}, {"if P { }", "{ if ( P ) { } }"}, {"if () { }", "{ if ( ( ) ) { } }"},
		{"if let x = 1 in x { }", "{ if ( let x = 1 in x ) { } }"}, {"if (f)(x) { }", "{ if ( f ( x ) ) { } }"},
		{"if match a { _ => b } { }", "{ if ( match ( a ) { _ => b } ) { } }"},
		{"match a{_{}}", "{ match ( a ) { _ { } } }"}, {"match a{C{stop}D(x,_){}}", "{ match ( a ) { C { stop } D ( x , _ ) { } } }"},
		{"for x in [1,2]{}", "{ for x in ( [ 1 , 2 ] ) { } }"},
		{"send x M()", "{ send x M ( ) }"}, {"send (x+1) M((1),(a or b))", "{ send x + 1 M ( 1 , a or b ) }"},
		{"send (let x = 1 in C) M()", "{ send let x = 1 in C M ( ) }"}, {"send (C) M()", "{ send C M ( ) }"},
		{"after (5) send self M()", "{ after 5 send self M ( ) }"}, {"after (if a then 1 else 2) send x M(1)", "{ after if a then 1 else 2 send x M ( 1 ) }"},
		{"spawn B()", "{ spawn B ( ) }"}, {"spawn B((1)) on (2)", "{ spawn B ( 1 ) on 2 }"}, {"let x=spawn B(1)on n+1 stop", "{ let x = spawn B ( 1 ) on n + 1 stop }"},
		{"do e((1),a)then M", "{ do e ( 1 , a ) then M }"}, {"fail (\"x\"++y)", "{ fail \"x\" ++ y }"},
	} {
		s := Write(parsed(t, "actor A() { on M() { "+c[0]+" } }", true))
		if got := strings.TrimSuffix(strings.TrimPrefix(s, "actor A ( ) { on M ( ) "), " }"); got != c[1] {
			t.Errorf("%s is written as %s; want %s", c[0], s, c[1])
		}
	}
}

// P8.3: the same for expressions.
func TestWriteExpressions(t *testing.T) {
	for _, c := range [][2]string{
		{"((1))", "1"}, {"(())", "( )"}, {"\"a\\n\\\"\"", "\"a\\n\\\"\""}, {"[(1),(a or b),let x=1 in x]", "[ 1 , a or b , let x = 1 in x ]"},
		// Operands at their own level and at those beside it.
		{"(a or b) or c", "a or b or c"}, {"a or (b or c)", "a or ( b or c )"}, {"(a and b) or (c and d)", "a and b or c and d"}, {"(not a) or (not b)", "not a or not b"},
		{"(a or b) and c", "( a or b ) and c"}, {"a and (b or c)", "a and ( b or c )"}, {"(a and b) and c", "a and b and c"},
		{"a and (b and c)", "a and ( b and c )"}, {"(not a) and (not b)", "not a and not b"},
		{"not (a or b)", "not ( a or b )"}, {"not (a and b)", "not ( a and b )"}, {"not (not a)", "not not a"}, {"not (a == b)", "not a == b"},
		{"(not a) == b", "( not a ) == b"}, {"a == (not b)", "a == ( not b )"},
		{"(a < b) < c", "( a < b ) < c"}, {"a < (b < c)", "a < ( b < c )"}, {"(a == b) != c", "( a == b ) != c"},
		{"(a ++ b) <= (c ++ d)", "a ++ b <= c ++ d"}, {"(a and b) == c", "( a and b ) == c"},
		{"(a == b) ++ c", "( a == b ) ++ c"}, {"a ++ (b == c)", "a ++ ( b == c )"}, {"(a ++ b) ++ c", "a ++ b ++ c"}, {"a ++ (b ++ c)", "a ++ ( b ++ c )"},
		{"(a + b) ++ (c - d)", "a + b ++ c - d"},
		{"(a ++ b) + c", "( a ++ b ) + c"}, {"a + (b ++ c)", "a + ( b ++ c )"}, {"(a - b) + c", "a - b + c"}, {"a + (b - c)", "a + ( b - c )"},
		{"(a * b) - (c / d)", "a * b - c / d"},
		{"(a + b) * c", "( a + b ) * c"}, {"a * (b + c)", "a * ( b + c )"}, {"(a / b) * c", "a / b * c"}, {"a * (b / c)", "a * ( b / c )"}, {"(-a) * (-b)", "- a * - b"},
		{"-(a + b)", "- ( a + b )"}, {"-(a * b)", "- ( a * b )"}, {"-(-a)", "- - a"}, {"-(not a)", "- ( not a )"}, {"-(f(x))", "- f ( x )"},
		{"-(x.y)", "- x . y"}, {"(-x).y", "( - x ) . y"}, {"-(if a then b else c)", "- ( if a then b else c )"},
		// Operands of postfix forms.
		{"(f)(x)", "f ( x )"}, {"(f(x))(y)", "f ( x ) ( y )"}, {"(a.b)(x)", "a . b ( x )"}, {"(a with { b = 1 })(x)", "a with { b = 1 } ( x )"},
		{"(-f)(x)", "( - f ) ( x )"}, {"(f + g)(x)", "( f + g ) ( x )"}, {"(not f)(x)", "( not f ) ( x )"},
		{"(fun(): int = 1)()", "( fun ( ) : int = 1 ) ( )"}, {"(let f = g in f)(x)", "( let f = g in f ) ( x )"},
		{"(if a then f else g)(x)", "( if a then f else g ) ( x )"}, {"(match a { _ => f })(x)", "( match ( a ) { _ => f } ) ( x )"},
		{"f(((x)), (let y = 1 in y))", "f ( x , let y = 1 in y )"},
		{"(C)(x)", "( C ) ( x )"}, {"(C)()", "( C ) ( )"}, {"((C)(x))(y)", "( C ) ( x ) ( y )"}, {"(C(x))(y)", "C ( x ) ( y )"},
		{"(P { })(x)", "P { } ( x )"}, {"(C).x", "C . x"}, {"(C) with { x = 1 }", "C with { x = 1 }"}, {"C(D)", "C ( D )"}, {"f(C)", "f ( C )"},
		{"(())(1)", "( ) ( 1 )"}, {"([])(1)", "[ ] ( 1 )"}, {"(1)(2)", "1 ( 2 )"},
		{"(x).y", "x . y"}, {"(x.y).z", "x . y . z"}, {"(a + b).y", "( a + b ) . y"}, {"(a or b).y", "( a or b ) . y"},
		{"(P { x = 1 }).x", "P { x = 1 } . x"}, {"(let x = 1 in x).y", "( let x = 1 in x ) . y"}, {"(\"s\").y", "\"s\" . y"},
		{"(x) with { y = (a or b) }", "x with { y = a or b }"}, {"(-x) with { y = 1 }", "( - x ) with { y = 1 }"},
		{"(match a { _ => b }) with { y = 1 }", "( match ( a ) { _ => b } ) with { y = 1 }"},
		{"(x with { y = 1 }) with { z = 2 }", "x with { y = 1 } with { z = 2 }"}, {"(not x) with { y = 1 }", "( not x ) with { y = 1 }"},
		// Operands of operators that are of the lowest level.
		{"(let x = 1 in x) or (let x = 1 in x)", "( let x = 1 in x ) or ( let x = 1 in x )"},
		{"(if a then b else c) and d", "( if a then b else c ) and d"}, {"not (let x = 1 in x)", "not ( let x = 1 in x )"},
		{"a + (fun(): int = 1)", "a + ( fun ( ) : int = 1 )"}, {"(match a { _ => b }) < c", "( match ( a ) { _ => b } ) < c"},
		// Places where every expression may stand, and heads.
		{"let x = (let y = 1 in y) in (let z = 2 in z)", "let x = let y = 1 in y in let z = 2 in z"},
		{"if (if a then b else c) then (if d then e else f) else (let x = 1 in x)", "if if a then b else c then if d then e else f else let x = 1 in x"},
		{"fun(x: int): int = (let y = x in y)", "fun ( x : int ) : int = let y = x in y"},
		{"match a { _ => (let x = 1 in x), C => (match b { D(_) => 1 }) }", "match ( a ) { _ => let x = 1 in x , C => match ( b ) { D ( _ ) => 1 } }"},
		{"match (a) { _ => 1 }", "match ( a ) { _ => 1 }"}, {"match a or b { _ => 1 }", "match ( a or b ) { _ => 1 }"},
		{"match P { _ => P { } }", "match ( P ) { _ => P { } }"}, {"match (P { }) { _ => 1 }", "match ( P { } ) { _ => 1 }"},
		{"match match a { _ => b } { _ => c }", "match ( match ( a ) { _ => b } ) { _ => c }"}, {"match () { _ => 1 }", "match ( ( ) ) { _ => 1 }"},
		{"match (C)(x) { _ => 1 }", "match ( ( C ) ( x ) ) { _ => 1 }"},
		{"P { x = (1), y = (a or b) }", "P { x = 1 , y = a or b }"}, {"C((1), (let x = 1 in x))", "C ( 1 , let x = 1 in x )"},
	} {
		s := Write(parsed(t, "fun f(): int = "+c[0], true))
		if got := strings.TrimPrefix(s, "fun f ( ) : int = "); got != c[1] {
			t.Errorf("%s is written as %s; want %s", c[0], s, c[1])
		}
	}
}

// P8.3: Tokens are those that Scan finds in what is written, without offsets; a tree without tokens has none.
func TestTokens(t *testing.T) {
	var want []api.Token
	for _, word := range strings.Fields("fun f ( ) : text =") {
		want = append(want, wordToken(word))
	}
	want = append(want, api.Token{Kind: api.TText, Text: "s"}, wordToken("++"), api.Token{Kind: api.TInt, N: 5}, wordToken("."), wordToken("x"))
	if got := Tokens(parsed(t, "fun f(): text = (\"s\") ++ (5).x", true)); !slices.Equal(got, want) {
		t.Error(got)
	}
	if got := Tokens(node(KProgram, "", 0)); len(got) > 0 {
		t.Error(got)
	}
	for _, s := range samples() {
		n, _, _ := Patch(s)
		l, e, _ := lex.Scan(Write(n))
		for k := range l {
			l[k].At = 0
		}
		if e != api.OK || !slices.Equal(l, Tokens(n)) {
			t.Errorf("%s: %v; want %v", brief(s), Tokens(n), l)
		}
	}
}

// is checks Right, and that nothing is written of a tree that is not right.
func is(t *testing.T, right bool, n api.Node) {
	t.Helper()
	if Right(n) != right {
		t.Errorf("Right is %v of %s", !right, brief(show(n)))
	}
	if empty := len(n.Kids) == 0; (len(Tokens(n)) > 0) != (right && !empty) || (Write(n) != "") != (right && !empty) {
		t.Errorf("Tokens or Write of %s: %v, %s", brief(show(n)), Tokens(n), brief(Write(n)))
	}
}

// P8.2: only a program is right, and only as the root.
func TestRightRoot(t *testing.T) {
	is(t, true, node(KProgram, "", 0))
	is(t, true, api.Node{Kind: KProgram, At: 7, Kids: []api.Node{}})
	is(t, false, api.Node{})
	is(t, false, node(KProgram, "x", 0))
	is(t, false, node(KProgram, "", 1))
	is(t, false, node(KProgram, "", -1))
	is(t, false, node(KProgram, "", 0, api.Node{}))
	is(t, false, node(KProgram, "", 0, node(KProgram, "", 0)))
	for _, s := range samples() {
		n, _, _ := Patch(s)
		is(t, true, n)
		eachNode(&n, func(x *api.Node) {
			if x.Kind != KProgram {
				is(t, false, *x)
			}
		})
	}
}

// P8.2: the leaves of expressions with every Text and N that may be in question.
func TestRightLeaves(t *testing.T) {
	for _, n := range []int{0, 1, 2, 300, api.MaxNum - 1, api.MaxNum} {
		is(t, true, inFunction(node(KInt, "", n)))
		is(t, true, node(KProgram, "", 0, node(KMove, "A", n)))
		is(t, true, node(KProgram, "", 0, node(KActor, "A", n+1)))
		is(t, n <= 1, inFunction(node(KBool, "", n)))
	}
	for _, n := range []int{-1, -2, api.MaxNum + 1, api.MaxNum + 2, -api.MaxNum, math.MaxInt, math.MinInt} {
		is(t, false, inFunction(node(KInt, "", n)))
		is(t, false, inFunction(node(KBool, "", n)))
		is(t, false, node(KProgram, "", 0, node(KMove, "A", n)))
		is(t, n == -1 || n == api.MaxNum+1, node(KProgram, "", 0, node(KActor, "A", n)))
	}
	is(t, true, node(KProgram, "", 0, node(KActor, "A", 0)))
	for _, c := range []struct {
		s     string
		right bool
	}{
		{"", true}, {"a", true}, {"if", true}, {"\"\\\n\t\x00\xff", true}, {strings.Repeat("a", api.MaxText), true}, {strings.Repeat("\n", api.MaxText), true},
		{strings.Repeat("a", api.MaxText+1), false}, {strings.Repeat("\"", api.MaxText+1), false}, {strings.Repeat("x", api.MaxSource), false},
	} {
		is(t, c.right, inFunction(node(KText, c.s, 0)))
		is(t, false, inFunction(node(KText, c.s, 1)))
		is(t, false, inFunction(node(KText, c.s, 0, node(KUnit, "", 0))))
	}
	for _, kind := range []int{KUnit, KSelf, KList, KInt, KBool} {
		is(t, true, inFunction(node(kind, "", 0)))
		is(t, false, inFunction(node(kind, "a", 0)))
		is(t, kind == KInt || kind == KBool, inFunction(node(kind, "", 1)))
		is(t, kind == KList, inFunction(node(kind, "", 0, node(KUnit, "", 0))))
	}
	long := strings.Repeat("n", 3*api.MaxSource)
	is(t, true, inFunction(node(KName, long, 0)))
	is(t, true, inFunction(node(KCons, "N"+long, 0)))
	is(t, true, node(KProgram, "", 0, node(KDrop, "N"+long, 0)))
	is(t, false, inFunction(node(KName, long+"-", 0)))
	is(t, false, inFunction(node(KName, "", 0)))
	is(t, false, inFunction(node(KCons, "", 0)))
	if s := Write(inFunction(node(KName, long, 0))); s != "fun f ( ) : int = "+long {
		t.Error(brief(s))
	}
}

// P8.2: trees with more tokens than a source can have.
func TestRightLong(t *testing.T) {
	one := node(KInt, "", 1)
	n := inFunction(node(KList, "", 0, slices.Repeat([]api.Node{one}, 50000)...))
	is(t, true, n)
	if l := Tokens(n); len(l) != 2*50000+8 {
		t.Error(len(l), "tokens")
	}
	n.Kids[0].Kids[1].Kids[49999].N = -1
	is(t, false, n)
	is(t, true, node(KProgram, "", 0, slices.Repeat([]api.Node{node(KDrop, "A", 0)}, 50000)...))
}

// P8.2: nodes at the greatest depth and below it.
func TestRightDepth(t *testing.T) {
	for _, kind := range []int{KNeg, KNot, KList, KCons} {
		text := map[bool]string{true: "C"}[kind == KCons]
		x := node(KUnit, "", 0)
		for depth := 2; depth <= 45; depth++ {
			is(t, depth <= api.MaxNest, inFunction(x))
			is(t, depth < api.MaxNest, inFunction(node(KBin, "+", 0, x, node(KUnit, "", 0))))
			is(t, depth < api.MaxNest, inFunction(node(KBin, "+", 0, node(KUnit, "", 0), x)))
			x = node(kind, text, 0, x)
		}
	}
	// A tree that is deeper than any source, and one that has no end.
	x := node(KUnit, "", 0)
	for range 1 << 16 {
		x = node(KNeg, "", 0, x)
	}
	is(t, false, inFunction(x))
	endless := make([]api.Node, 1)
	endless[0] = node(KNeg, "", 0, endless...)
	is(t, false, inFunction(endless[0]))
	is(t, false, endless[0])
}

// P8.2: each number of kids of every kind, in the place where it stands.
func TestRightKids(t *testing.T) {
	unit, typ, block := node(KUnit, "", 0), node(KTypeName, "int", 0), node(KBlock, "", 0)
	field, set, bind, msg := node(KField, "a", 0, typ), node(KSet, "a", 0, unit), node(KBind, "a", 0), node(KMsg, "M", 0)
	arm, sarm, send := node(KArm, "_", 0, unit), node(KSArm, "_", 0, block), node(KSSend, "M", 0, unit)
	in := map[string]func(n api.Node) api.Node{
		"part":   func(n api.Node) api.Node { return node(KProgram, "", 0, n) },
		"member": func(n api.Node) api.Node { return node(KProgram, "", 0, node(KActor, "A", 0, n)) },
		"ctor":   func(n api.Node) api.Node { return node(KProgram, "", 0, node(KVariant, "V", 0, n)) },
		"type":   func(n api.Node) api.Node { return node(KProgram, "", 0, node(KFun, "f", 0, n, unit)) },
		"stmt":   func(n api.Node) api.Node { return inStatement(n) },
		"expr":   inFunction,
		"set":    func(n api.Node) api.Node { return inFunction(node(KNew, "P", 0, n)) },
		"arm":    func(n api.Node) api.Node { return inFunction(node(KMatch, "", 0, unit, n)) },
		"sarm":   func(n api.Node) api.Node { return inStatement(node(KSMatch, "", 0, unit, n)) },
		"bind":   func(n api.Node) api.Node { return inFunction(node(KMatch, "", 0, unit, node(KArm, "C", 0, n, unit))) },
		"field":  func(n api.Node) api.Node { return node(KProgram, "", 0, node(KRecord, "P", 0, n)) },
		"reply":  func(n api.Node) api.Node { return inStatement(node(KSDo, "e", 0, n)) },
	}
	for _, c := range []struct {
		place string
		n     api.Node
		// kids are those of a node that is right: fixed ones, and one that may stand behind them, before the last ones, any number of times.
		before []api.Node
		more   api.Node
		after  []api.Node
		least  int
	}{
		{"part", node(KRecord, "P", 0), nil, field, nil, 0}, {"part", node(KVariant, "V", 0), nil, node(KCtor, "A", 0), nil, 1},
		{"part", node(KEffect, "e", 0), nil, field, []api.Node{typ}, 0},
		{"part", node(KFun, "f", 0), nil, field, []api.Node{typ, unit}, 0}, {"part", node(KActor, "A", 0), nil, field, nil, 0},
		{"part", node(KActor, "A", -1), nil, node(KState, "s", 0, typ, unit), nil, 0},
		{"part", node(KActor, "A", 1), nil, node(KOn, "M", 0, block), nil, 0},
		{"field", node(KField, "a", 0), []api.Node{typ}, api.Node{}, nil, 0}, {"ctor", node(KCtor, "A", 0), nil, typ, nil, 0},
		{"member", node(KState, "s", 0), []api.Node{typ, unit}, api.Node{}, nil, 0}, {"member", node(KOn, "M", 0), nil, field, []api.Node{block}, 0},
		{"type", node(KTypeName, "P", 0), nil, api.Node{}, nil, 0}, {"type", node(KTypeList, "", 0), []api.Node{typ}, api.Node{}, nil, 0},
		{"type", node(KTypeRef, "A", 0), nil, api.Node{}, nil, 0}, {"type", node(KTypeFun, "", 0), nil, typ, nil, 1},
		{"expr", node(KInt, "", 0), nil, api.Node{}, nil, 0}, {"expr", node(KText, "", 0), nil, api.Node{}, nil, 0},
		{"expr", node(KBool, "", 0), nil, api.Node{}, nil, 0}, {"expr", node(KUnit, "", 0), nil, api.Node{}, nil, 0},
		{"expr", node(KName, "a", 0), nil, api.Node{}, nil, 0}, {"expr", node(KSelf, "", 0), nil, api.Node{}, nil, 0},
		{"expr", node(KList, "", 0), nil, unit, nil, 0}, {"expr", node(KNew, "P", 0), nil, set, nil, 0}, {"expr", node(KCons, "C", 0), nil, unit, nil, 0},
		{"expr", node(KGet, "a", 0), []api.Node{unit}, api.Node{}, nil, 0}, {"expr", node(KWith, "", 0), []api.Node{unit}, set, nil, 1},
		{"expr", node(KCall, "", 0), []api.Node{unit}, unit, nil, 0},
		{"expr", node(KNeg, "", 0), []api.Node{unit}, api.Node{}, nil, 0}, {"expr", node(KNot, "", 0), []api.Node{unit}, api.Node{}, nil, 0},
		{"expr", node(KBin, "+", 0), []api.Node{unit, unit}, api.Node{}, nil, 0},
		{"expr", node(KIf, "", 0), []api.Node{unit, unit, unit}, api.Node{}, nil, 0},
		{"expr", node(KLet, "a", 0), []api.Node{unit, unit}, api.Node{}, nil, 0}, {"expr", node(KMatch, "", 0), []api.Node{unit}, arm, nil, 1},
		{"expr", node(KLambda, "", 0), nil, field, []api.Node{typ, unit}, 0},
		{"set", node(KSet, "a", 0), []api.Node{unit}, api.Node{}, nil, 0}, {"arm", node(KArm, "C", 0), nil, bind, []api.Node{unit}, 0},
		{"arm", node(KArm, "_", 0), []api.Node{unit}, api.Node{}, nil, 0}, {"sarm", node(KSArm, "C", 0), nil, bind, []api.Node{block}, 0},
		{"sarm", node(KSArm, "_", 0), []api.Node{block}, api.Node{}, nil, 0}, {"bind", node(KBind, "a", 0), nil, api.Node{}, nil, 0},
		{"bind", node(KBind, "_", 0), nil, api.Node{}, nil, 0},
		{"stmt", node(KSLet, "a", 0), []api.Node{unit}, api.Node{}, nil, 0}, {"stmt", node(KSSet, "a", 0), []api.Node{unit}, api.Node{}, nil, 0},
		{"stmt", node(KSMatch, "", 0), []api.Node{unit}, sarm, nil, 1}, {"stmt", node(KSFor, "a", 0), []api.Node{unit, block}, api.Node{}, nil, 0},
		{"stmt", node(KSSend, "M", 0), []api.Node{unit}, unit, nil, 0}, {"stmt", node(KSAfter, "", 0), []api.Node{unit, send}, api.Node{}, nil, 0},
		{"stmt", node(KSSpawn, "A", 0), []api.Node{bind}, unit, nil, 0},
		{"stmt", node(KSSpawn, "A", 1), []api.Node{node(KBind, "_", 0)}, unit, []api.Node{unit}, 0},
		{"stmt", node(KSDo, "e", 0), nil, unit, []api.Node{msg}, 0}, {"stmt", node(KSStop, "", 0), nil, api.Node{}, nil, 0},
		{"stmt", node(KSFail, "", 0), []api.Node{unit}, api.Node{}, nil, 0}, {"reply", node(KMsg, "M", 0), nil, api.Node{}, nil, 0},
		{"part", node(KConvType, "P", 0), nil, field, []api.Node{unit}, 0},
		{"part", node(KConvType, "V", 1), []api.Node{node(KName, "A", 0)}, field, []api.Node{unit}, 0},
		{"part", node(KConvActor, "A", 0), nil, set, nil, 0}, {"part", node(KConvActor, "A", 0), nil, field, nil, 0},
		{"part", node(KConvMsg, "A", 0), []api.Node{node(KName, "init", 0)}, field, []api.Node{msg}, 0},
		{"part", node(KMove, "A", 0), nil, api.Node{}, nil, 0}, {"part", node(KDrop, "A", 0), nil, api.Node{}, nil, 0},
	} {
		with := func(kids []api.Node) api.Node {
			n := c.n
			n.Kids = kids
			return in[c.place](n)
		}
		isList := c.more.Kind != 0
		for count := range 4 {
			kids := slices.Concat(c.before, slices.Repeat([]api.Node{c.more}, count), c.after)
			is(t, count == 0 && c.least == 0 || isList && count >= c.least, with(kids))
			for k := range kids {
				other := slices.Clone(kids)
				other[k] = api.Node{Kind: 99}
				is(t, false, with(other))
			}
		}
		fixed := slices.Concat(c.before, c.after)
		for k := range fixed {
			is(t, false, with(slices.Delete(slices.Clone(fixed), k, k+1)))
		}
		if !isList {
			is(t, false, with(append(slices.Clip(fixed), unit)))
			is(t, false, with(slices.Concat(fixed, fixed[max(0, len(fixed)-1):], []api.Node{typ})))
		}
		odd := with(slices.Concat(c.before, slices.Repeat([]api.Node{c.more}, c.least), c.after))
		is(t, true, odd)
		eachNode(&odd, func(x *api.Node) {
			if x.Kind == c.n.Kind {
				x.Kind = 99
			}
		})
		is(t, false, odd)
	}
}

// P8.2: kids of a sort that stands in other places.
func TestRightSorts(t *testing.T) {
	unit, typ, block, msg := node(KUnit, "", 0), node(KTypeName, "int", 0), node(KBlock, "", 0), node(KMsg, "M", 0)
	field := node(KField, "a", 0, typ)
	for _, n := range []api.Node{
		inFunction(typ), inFunction(block), inFunction(node(KSet, "a", 0, unit)), inFunction(node(KBind, "a", 0)), inFunction(node(KArm, "_", 0, unit)),
		inFunction(msg), inFunction(field), inFunction(node(KSStop, "", 0)), inFunction(node(KName, "A", 0)),
		inStatement(unit), inStatement(block), inStatement(node(KSArm, "_", 0, block)), inStatement(node(KLet, "a", 0, unit, unit)),
		inStatement(node(KIf, "", 0, unit, unit, unit)), inStatement(node(KCall, "", 0, unit)), inStatement(msg),
		inStatement(node(KSIf, "", 0, unit)), inStatement(node(KSIf, "", 0, unit, unit)), inStatement(node(KSIf, "", 0, unit, block, block, block)),
		inStatement(node(KSIf, "", 0, block, block)), inStatement(node(KSIf, "", 0)),
		inStatement(node(KSIf, "", 0, unit, block, node(KSIf, "", 0, unit, block))),
		inStatement(node(KSAfter, "", 0, unit, node(KSStop, "", 0))), inStatement(node(KSAfter, "", 0, unit, node(KSAfter, "", 0, unit, node(KSSend, "M", 0, unit)))),
		inStatement(node(KSSpawn, "A", 0)), inStatement(node(KSSpawn, "A", 0, unit)), inStatement(node(KSSpawn, "A", 1, node(KBind, "_", 0))),
		inStatement(node(KSSpawn, "A", 2, node(KBind, "_", 0), unit)), inStatement(node(KSSpawn, "A", -1, node(KBind, "_", 0), unit)),
		inStatement(node(KSSpawn, "A", 0, node(KBind, "A", 0))), inStatement(node(KSSpawn, "A", 0, node(KBind, "if", 0))),
		inStatement(node(KSSpawn, "A", 0, node(KBind, "_", 1))), inStatement(node(KSSpawn, "A", 0, node(KBind, "_", 0, unit))),
		inStatement(node(KSSpawn, "A", 0, node(KName, "a", 0))),
		inStatement(node(KSDo, "e", 0, node(KMsg, "init", 0))), inStatement(node(KSDo, "e", 0, node(KMsg, "M", 0, unit))),
		inStatement(node(KSDo, "e", 0, node(KName, "M", 0))), inStatement(node(KSDo, "e", 0, msg, unit)),
		inStatement(node(KSMatch, "", 0, unit, node(KArm, "_", 0, unit))), inFunction(node(KMatch, "", 0, unit, node(KSArm, "_", 0, block))),
		inFunction(node(KMatch, "", 0, unit, node(KArm, "_", 0, node(KBind, "a", 0), unit))),
		inStatement(node(KSMatch, "", 0, unit, node(KSArm, "_", 0, node(KBind, "_", 0), block))),
		inFunction(node(KMatch, "", 0, unit, node(KArm, "a", 0, unit))),
		inFunction(node(KMatch, "", 0, unit, node(KArm, "C", 0, node(KName, "a", 0), unit))),
		node(KProgram, "", 0, typ), node(KProgram, "", 0, field), node(KProgram, "", 0, unit), node(KProgram, "", 0, node(KState, "s", 0, typ, unit)),
		node(KProgram, "", 0, node(KOn, "M", 0, block)), node(KProgram, "", 0, node(KCtor, "A", 0)), node(KProgram, "", 0, block),
		node(KProgram, "", 0, node(KSStop, "", 0)), node(KProgram, "", 0, msg), node(KProgram, "", 0, node(KLambda, "", 0, typ, unit)),
		node(KProgram, "", 0, node(KRecord, "P", 0, typ)), node(KProgram, "", 0, node(KRecord, "P", 0, node(KCtor, "A", 0))),
		node(KProgram, "", 0, node(KVariant, "V", 0, field)), node(KProgram, "", 0, node(KFun, "f", 0, unit, typ)),
		node(KProgram, "", 0, node(KFun, "f", 0, typ, field, unit)), node(KProgram, "", 0, node(KEffect, "e", 0, typ, typ)),
		node(KProgram, "", 0, node(KActor, "A", 0, node(KOn, "M", 0, block), field)), node(KProgram, "", 0, node(KActor, "A", 0, node(KRecord, "P", 0))),
		node(KProgram, "", 0, node(KActor, "A", 0, node(KDrop, "A", 0))),
		node(KProgram, "", 0, node(KConvType, "P", 1, unit)), node(KProgram, "", 0, node(KConvType, "P", 0, node(KName, "A", 0), unit)),
		node(KProgram, "", 0, node(KConvType, "P", 2, node(KName, "A", 0), unit)),
		node(KProgram, "", 0, node(KConvType, "P", 1, node(KName, "a", 0), unit)),
		node(KProgram, "", 0, node(KConvType, "P", 1, node(KName, "init", 0), unit)),
		node(KProgram, "", 0, node(KConvType, "P", 1, node(KCons, "A", 0), unit)), node(KProgram, "", 0, node(KConvType, "P", -1, unit)),
		node(KProgram, "", 0, node(KConvType, "P", 1, node(KName, "A", 1), unit)),
		node(KProgram, "", 0, node(KConvActor, "A", 0, node(KSet, "a", 0, unit), field)), node(KProgram, "", 0, node(KConvActor, "A", 0, unit)),
		node(KProgram, "", 0, node(KConvActor, "A", 0, node(KSSet, "a", 0, unit))),
		node(KProgram, "", 0, node(KConvMsg, "A", 0, msg, msg)), node(KProgram, "", 0, node(KConvMsg, "A", 0, node(KName, "M", 0), node(KName, "M", 0))),
		node(KProgram, "", 0, node(KConvMsg, "A", 0, node(KName, "m", 0), msg)),
		node(KProgram, "", 0, node(KConvMsg, "A", 0, node(KName, "M", 0), node(KMsg, "m", 0))),
		node(KProgram, "", 0, node(KConvMsg, "A", 0, node(KName, "M", 0), node(KMsg, "M", 0, typ))),
		node(KProgram, "", 0, node(KConvMsg, "A", 0, node(KName, "M", 0, unit), msg)),
		node(KProgram, "", 0, node(KConvMsg, "A", 0, msg, node(KName, "M", 0))),
	} {
		is(t, false, n)
	}
	is(t, true, inStatement(node(KSSpawn, "A", 0, node(KBind, "init", 0), node(KName, "init", 0))))
	is(t, true, node(KProgram, "", 0, node(KConvMsg, "A", 0, node(KName, "M", 0), field, node(KMsg, "init", 0, unit, unit))))
}

// P8.2: Same sees a difference in every Kind, Text, N and number of kids, in every node, and none in offsets.
func TestSame(t *testing.T) {
	same := func(want bool, a, b api.Node) {
		t.Helper()
		if Same(a, b) != want || Same(b, a) != want {
			t.Errorf("Same is %v for %s and %s", !want, brief(show(a)), brief(show(b)))
		}
	}
	same(true, api.Node{}, api.Node{})
	same(true, api.Node{Kind: -5, Text: "?", N: math.MinInt}, api.Node{Kind: -5, Text: "?", N: math.MinInt, At: 3, Kids: []api.Node{}})
	for _, s := range samples() {
		a, _, _ := Patch(s)
		b := deepCopy(a)
		same(true, a, b)
		eachNode(&b, func(x *api.Node) {
			old := *x
			for _, n := range []int{0, -1, x.At + 1, math.MaxInt} {
				x.At = n
				same(true, a, b)
			}
			*x = old
			for _, k := range []int{0, -1, x.Kind + 1, x.Kind - 1, x.Kind + 1<<32} {
				x.Kind = k
				same(k == old.Kind, a, b)
			}
			*x = old
			for _, text := range []string{"", "a", "A", x.Text + "x", x.Text + "\x00"} {
				x.Text = text
				same(text == old.Text, a, b)
			}
			*x = old
			for _, n := range []int{0, 1, -1, x.N + 1, x.N + 1<<32} {
				x.N = n
				same(n == old.N, a, b)
			}
			*x = old
			x.Kids = append(slices.Clone(old.Kids), api.Node{})
			same(false, a, b)
			for k := range old.Kids {
				x.Kids = slices.Delete(slices.Clone(old.Kids), k, k+1)
				same(false, a, b)
				x.Kids = old.Kids[:k]
				same(false, a, b)
			}
			*x = old
		})
		same(true, a, b)
	}
	deep := func(leaf int) api.Node {
		x := node(KInt, "", leaf)
		for range 1 << 16 {
			x = node(KNeg, "", 0, x)
		}
		return x
	}
	same(true, deep(1), deep(1))
	same(false, deep(1), deep(2))
}

// P8.2, P8.3: offsets are ignored, whatever they are.
func TestOffsetsAreIgnored(t *testing.T) {
	for _, s := range samples() {
		n, _, _ := Patch(s)
		want := Write(n)
		for _, at := range []int{-1, 0, 7, math.MinInt, math.MaxInt} {
			eachNode(&n, func(x *api.Node) { x.At = at })
			if !Right(n) || Write(n) != want {
				t.Errorf("%s is written as %s", s, Write(n))
			}
		}
	}
}

// P8.5: what was written has the same tree, and is written in the same way.
func TestParseWritten(t *testing.T) {
	for _, s := range samples() {
		n, _, _ := Patch(s)
		written := Write(n)
		for start, parse := range parsers {
			m, e, at := parse(written)
			if isProgram := !slices.ContainsFunc(n.Kids, func(x api.Node) bool { return x.Kind >= KConvType }); start == "program" && !isProgram {
				continue
			}
			if e != api.OK || at != 0 || !Same(n, m) || Write(m) != written {
				t.Errorf("%s %s: error %d at %d, %s", start, written, e, at, show(m))
			}
		}
	}
}

// spread returns the tree with room and other nodes beyond the length of every slice of kids.
func spread(n api.Node) api.Node {
	kids := make([]api.Node, 0, len(n.Kids)+2)
	for _, kid := range n.Kids {
		kids = append(kids, spread(kid))
	}
	more := append(kids, api.Node{Kind: 99, Text: "beyond", N: -1}, node(KUnit, "", 0))
	n.Kids = more[:len(kids)]
	return n
}

// unspread reports whether what spread has put beyond the lengths is still there.
func unspread(n api.Node) bool {
	more := n.Kids[:len(n.Kids)+2]
	if !equal(more[len(more)-2], api.Node{Kind: 99, Text: "beyond", N: -1}) || !equal(more[len(more)-1], node(KUnit, "", 0)) {
		return false
	}
	return !slices.ContainsFunc(n.Kids, func(kid api.Node) bool { return !unspread(kid) })
}

// P8.4: arguments are left as they were, elements beyond the length of a slice included, and those are not read.
func TestArgumentsAreLeft(t *testing.T) {
	for _, s := range samples() {
		want, _, _ := Patch(s)
		n := spread(want)
		if !Right(n) || !Same(n, want) || !Same(want, n) || Write(n) != Write(want) || !slices.Equal(Tokens(n), Tokens(want)) {
			t.Errorf("%s: what is beyond the lengths counts", s)
		}
		if !equal(n, want) || !unspread(n) {
			t.Errorf("%s: the argument has changed: %s", s, show(n))
		}
	}
}

// P8.4: what is done to one result is seen in no other, and in no other part of the same one.
func TestResultsAreFresh(t *testing.T) {
	other := api.Node{Kind: 99, Text: "other", N: -1, At: -1}
	for _, s := range samples() {
		first, _, _ := Patch(s)
		want := show(first)
		second, _, _ := Patch(s)
		// No list of kids goes on in another one.
		eachNode(&first, func(x *api.Node) { _ = append(x.Kids, other, other) })
		if show(first) != want {
			t.Errorf("%s: lists share memory: %s", s, show(first))
		}
		tokens, again := Tokens(second), Tokens(second)
		written := Write(second)
		eachNode(&first, func(x *api.Node) { *x = api.Node{Kind: 99, Kids: x.Kids} })
		if show(second) != want {
			t.Errorf("%s: a result has changed: %s", s, show(second))
		}
		before := slices.Clone(again)
		for k := range tokens {
			tokens[k] = api.Token{Kind: 9, Text: "!", N: -1, At: -1}
		}
		_ = append(tokens, api.Token{Kind: 9})
		eachNode(&second, func(x *api.Node) { *x = api.Node{Kind: 99, Text: "other", Kids: x.Kids} })
		if !slices.Equal(again, before) || lex.Write(again) != written {
			t.Errorf("%s: tokens have changed", s)
		}
		if third, e, _ := Patch(s); e != api.OK || show(third) != want {
			t.Errorf("%s: what is parsed has changed: %s", s, show(third))
		}
	}
}
