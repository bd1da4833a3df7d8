package check_test

import (
	"fmt"
	"slices"
	"strings"
	"testing"

	"retroact/api"
	"retroact/check"
	"retroact/types"
)

// P10.4: sources that differ in white space, comments and redundant parentheses have the same result.
func TestLayout(t *testing.T) {
	for _, l := range [][]string{
		{"fun t(a: int): int = a + f(a) * 2", "fun t ( a:int ):int=a+f(a)*2", "fun t(a: int): int = (a) + ((f)((a)) * (2))", "// f\nfun t(a: int): int = // g\n\t(a + (f(a)) * 2) // h", "fun t(a: int): int =\r\n(((a + f(a) * 2)))"},
		{"fun t(a: P): int = (a with { x = 1 }).x", "fun t(a: P): int = ((a) with { x = (1) }).x", "fun t(a: P): int = a with{x=1}.x", "fun t(a: P): int = (((a with { x = 1 })).x)"},
		{"fun t(a: int): fun(): int = fun(): int = let b = a in if b == 1 then [b] else [] ++ [2] ++ [] == [3]", "fun t(a: int): fun(): int = (fun(): int = (let b = a in (if (b == 1) then ([b]) else ((([] ++ [2]) ++ []) == [3]))))"},
		{"fun t(v: V): int = match v { A(x) => x, _ => let y = 1 in y }", "fun t(v: V): int = match (v) { A(x) => (x), _ => (let y = 1 in y) }", "fun t(v: V): int = (match v//\n{A(x)=>x,_=>(let y=(1)in(y))})"},
		{"actor X() { on M(r: ref X, n: int) { if n < 1 { send r M(self, n) } for i in [n] { spawn X() on i } match A(n) { A(_) { } _ { stop } } } }", "actor X(){on M(r:ref X,n:int){if(n<1){send(r)M((self),(n))}for i in([n]){spawn X()on(i)}match(A(n)){A(_){}_{stop}}}}", "actor X() { on M(r: ref X, n: int) { if (n) < (1) { send ((r)) M(self, n) } for i in ([(n)]) { spawn X() on ((i)) } match (A((n))) { A(_) { } _ { stop } } } }"},
	} {
		want, e, _ := check.Check(decls + l[0])
		for _, s := range l {
			for _, s := range []string{decls + s, "\n" + decls + s + " ", strings.ReplaceAll(decls, "\n", "\r\n// x y z \" }\n") + s} {
				p, got, at := check.Check(s)
				if got != e || printed(p) != printed(want) {
					t.Errorf("%s: error %d at %d", s, got, at)
				}
			}
		}
	}
	// Parentheses around an expression do not belong to its form; those around its first operand do.
	mistaken(t, []mistake{
		{api.ErrType, "", "text", "((^1))"}, {api.ErrType, "", "text", "^((1)) + 2"}, {api.ErrType, "", "text", "(^(1) + 2)"}, {api.ErrType, "", "int", "((^true)) + 1"}, {api.ErrType, "", "text", " // c\n ^f(1)"}, {api.ErrType, "", "text", "(^f(1))"}, {api.ErrType, "", "text", "^(f)(1)"}, {api.ErrName, "", "text", "(^(p()).z)"},
	})
}

// nested wraps an expression n times.
func nested(n int, before, inner, after string) string {
	return strings.Repeat(before, n) + inner + strings.Repeat(after, n)
}

// P10.1: the deepest nesting that the parser allows, and one level more, which is an error of the parser.
func TestDepth(t *testing.T) {
	// The root has depth 0, the function 1, and its expression 2.
	f := checked(t, decls+"fun t(): int = "+nested(38, "-", "1", "")).Funs[4]
	if got := show(f.Body); got != nested(38, "neg(", "int1", ")") {
		t.Error(got)
	}
	fails(t, api.ErrDeep, decls+"fun t(): int = "+nested(39, "-", "^1", ""))
	s := ""
	for k := range 38 {
		s += fmt.Sprint("let a", k, " = a", k-1, " in ")
	}
	s = strings.Replace(s, "a-1", "b", 1)
	f = checked(t, decls+"fun t(b: int): int = "+s+"a37").Funs[4]
	if f.Slots != 39 || !strings.HasSuffix(show(f.Body), " local38"+strings.Repeat(")", 38)) {
		t.Error(show(f.Body), f.Slots)
	}
	// Each lambda captures the parameters of those around it, as the innermost one uses them all.
	source, result := "fun(a19: int): [int] = [b", "fun(int): [int]"
	for k := range 19 {
		source += fmt.Sprint(", a", k)
	}
	source += "]"
	for k := range 19 {
		source = fmt.Sprint("fun(a", 18-k, ": int): ", result, " = ", source)
		result = "fun(int): " + result
	}
	p := checked(t, decls+"fun t(b: int): "+result+" = "+source)
	for k := range 20 {
		f := p.Funs[5+k]
		if len(f.Params) != k+2 || f.Slots != k+2 || f.Params[0].Name != "b" || f.Params[k+1].Name != fmt.Sprint("a", k) || k < 19 && f.Body.N != 6+k {
			t.Error(k, showFun(f))
		}
	}
}

// P1, P10.1: sources of the greatest size with very many bindings, closures, fields, arms, declarations and changes.
func TestSize(t *testing.T) {
	many := func(format string, n int) string {
		var out strings.Builder
		for k := range n {
			out.WriteString(strings.ReplaceAll(format, "#", fmt.Sprint(k)))
		}
		return out.String()
	}
	p := checked(t, "actor Main() { on M() { "+many("let a=1 ", 4000)+"} }")
	if on := p.Actors[0].On[0]; on.Slots != 4000 || len(on.Body) != 4000 || on.Body[3999].N != 3999 {
		t.Error("bindings:", on.Slots)
	}
	p = checked(t, "actor Main() { on M(n: int) { "+many("let a=fun():int=n ", 1700)+"} }")
	if on := p.Actors[0].On[0]; len(p.Funs) != 1700 || on.Slots != 1701 || on.Body[1699].Xs[0].N != 1699 || p.Funs[1699].Slots != 1 {
		t.Error("closures:", len(p.Funs), on.Slots)
	}
	p = checked(t, "actor Main() { } record R { "+many("a#:int,", 1200)+"z: int } fun f(r: R): R = r with { "+many("a#=#,", 1200)+"z = 1 }")
	x := p.Funs[0].Body
	for k := 1200; k >= 0; k-- {
		if x.Op != api.XWith || x.N != k {
			t.Fatal("sets:", k, x.Op, x.N)
		}
		x = x.Kids[0]
	}
	p = checked(t, "actor Main() { } variant V { "+many("A#,", 1500)+"B } fun f(v: V): int = match v { "+many("A#=>#,", 1500)+"B => 0 }")
	if arms := p.Funs[0].Body.Kids; len(arms) != 1502 || arms[1501].N != 1500 || arms[1500].Kids[0].N != 1499 {
		t.Error("arms:", len(arms))
	}
	p = checked(t, "actor Main() { } "+many("fun f#():int=f#() ", 1400))
	if len(p.Funs) != 1400 || p.Funs[1399].Body.N != 1399 {
		t.Error("functions:", len(p.Funs))
	}
	patch := patched(t, "actor Main() { } variant V { C } "+many("convert type A#()=C ", 1200)+many("drop A# ", 20))
	if len(patch.Convs) != 1200 || len(patch.Drops) != 20 || patch.Convs[1199].Funs[0] != 1199 {
		t.Error("changes:", len(patch.Convs), len(patch.Drops))
	}
	// The type of a variable can be deeper than the source is nested.
	s := "let a=[1] "
	depth := 1
	for len(s) < 20000 {
		s += "let a=" + nested(30, "[", "a", "]") + " "
		depth += 30
	}
	p = checked(t, "actor Main() { on M() { "+s+"let b=fun():bool=a==a } }")
	if f := p.Funs[0]; len(types.Show(f.Params[0].Type)) != 2*depth+3 || f.Result.Kind != api.TyBool {
		t.Error("depth of types:", len(types.Show(f.Params[0].Type)), depth)
	}
	names := slices.Repeat([]string{"int"}, 2000)
	p = checked(t, "actor Main() { } variant T { T("+strings.Join(names, ",")+") } fun f(t: T): [int] = match t { T("+strings.Join(slices.Repeat([]string{"a"}, 2000), ",")+") => ["+many("(fun():int=a)(),", 900)+"a] }")
	if f := p.Funs[0]; f.Slots != 2001 || len(p.Funs) != 901 || show(f.Body.Kids[1].Kids[0].Kids[899]) != "apply(fun900(local2000))" {
		t.Error("arguments:", f.Slots, len(p.Funs))
	}
}
