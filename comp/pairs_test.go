package comp_test

import (
	"fmt"
	"math/rand"
	"strings"
	"testing"

	"retroact/api"
	"retroact/comp"
)

// pattern is an expression or a statement with gaps for expressions, written as their types between two bars. The slots `$a` and `$b` are bound in it.
type pattern struct{ form, text string }

// leaves are expressions of each type in both a function of withFun and a handler of withBody.
func leaves() map[string]string {
	return map[string]string{"int": "local0", "text": "text'leaf'", "[int]": "list(int8)", "P": "rec'P'(int9 list)", "V": "ctor1'V'(rec'P'(int9 list) text)", "bool": "bool1", "O": "ctor0'O'"}
}

// exprPatterns are expressions of all kinds that may be in a function and in a handler.
func exprPatterns() []pattern {
	l := []pattern{
		{"int", "int5"}, {"int", "neg(|int|)"}, {"int", "get0(|P|)"}, {"int", "prim1(|[int]|)"}, {"int", "prim2(|[int]| |int|)"}, {"int", "prim5(|text|)"},
		{"text", "text'q'"}, {"text", "cat(|text| |text|)"}, {"text", "prim6(|text| |int| |int|)"}, {"text", "prim7(|int|)"}, {"bool", "bool0"}, {"bool", "and(|bool| |bool|)"}, {"bool", "or(|bool| |bool|)"}, {"bool", "not(|bool|)"},
		{"bool", "eq(|V| |V|)"}, {"bool", "ne(|int| |int|)"}, {"bool", "lt(|int| |int|)"}, {"bool", "le(|text| |text|)"}, {"bool", "gt(|int| |int|)"}, {"bool", "ge(|text| |text|)"},
		{"[int]", "list(|int|)"}, {"[int]", "list(|int| |int| |int|)"}, {"[int]", "cat(|[int]| |[int]|)"}, {"[int]", "prim3(|[int]| |int| |int|)"}, {"[int]", "prim4(|[int]| |int| |int|)"}, {"[int]", "get1(|P|)"},
		{"P", "rec'P'(|int| |[int]|)"}, {"P", "with0(|P| |int|)"}, {"P", "with1(|P| |[int]|)"}, {"V", "ctor0'V'(|int|)"}, {"V", "ctor1'V'(|P| |text|)"}, {"V", "ctor2'V'"}, {"O", "ctor0'O'"},
		{"int", "match(|V| arm0/$a(local$a) arm1/$a(prim5(local$b)) arm2(|int|))"}, {"P", "match(|V| arm1/$a(local$a) arm-1(|P|))"}, {"int", "match(|O| arm0(|int|))"}, {"V", "let$a(|V| local$a)"}, {"[int]", "let$a(|[int]| let$b(|int| cat(local$a list(local$b))))"},
	}
	for _, op := range []string{"add", "minus", "mul", "div", "mod"} {
		l = append(l, pattern{"int", op + "(|int| |int|)"})
	}
	for form := range leaves() {
		l = append(l, pattern{form, fmt.Sprintf("if(|bool| |%s| |%s|)", form, form)}, pattern{form, fmt.Sprintf("let$a(|int| |%s|)", form)}, pattern{form, fmt.Sprintf("match(|V| arm2/$a(|%s|) arm0/$b(|%s|) arm-1(|%s|))", form, form, form)}, pattern{form, fmt.Sprintf("match(|V| arm-1(|%s|))", form)})
	}
	return l
}

// functionPatterns are the others that may be in a function.
func functionPatterns() []pattern {
	return []pattern{{"int", "call1(|int| |text|)"}, {"int", "call3"}, {"int", "apply(fun2(|int| |text|) |int|)"}, {"int", "apply(local6 |int| |text|)"}, {"int", "apply(if(|bool| fun1 local6) |int| |text|)"}, {"int", "apply(fun3)"}}
}

// stmtPatterns are statements, in which a hash is a gap for others.
func stmtPatterns() []pattern {
	return []pattern{
		{"", "let$a(|int|)"}, {"", "set0(|int|)"}, {"", "set1(|[int]|)"}, {"", "send'Do'(local3 |int| |text|)"}, {"", "after'Ok'(|int| self |bool|)"}, {"", "spawn-1'W'(|int| |text|)"}, {"", "spawn$a/1'W'(|int| |int| |text|) send'End'(local$a)"}, {"", "spawn$a'Main'"}, {"", "spawn-1/1'Main'(|int|)"},
		{"", "do'pay''Ok'(|int| |text|)"}, {"", "do'ask''Ok'"}, {"", "stop"}, {"", "fail(|text|)"}, {"", "if(|bool|)then{#}"}, {"", "if(|bool|)else{#}"}, {"", "if(|bool|)then{#}else{stop}"}, {"", "if(|bool|)then{set0(int1)}else{#}"},
		{"", "match(|V|)arms{arm0/$athen{#} arm-1then{stop}}"}, {"", "match(|V|)arms{arm2 arm1/$athen{#} arm0/$a}"}, {"", "match(|V|)arms{arm-1then{#}}"}, {"", "match(|O|)arms{arm0then{# set0(int1)}}"}, {"", "for$a(|[int]|)then{#}"}, {"", "for$a(|[int]|)then{set0(local$a) # let$b(int1)}"},
	}
}

// in gives slots to a pattern.
func (p pattern) in(slot int) pattern {
	s := strings.ReplaceAll(p.text, "$a", fmt.Sprint(slot))
	return pattern{p.form, strings.ReplaceAll(s, "$b", fmt.Sprint(slot+1))}
}

// gaps returns the types of the gaps.
func (p pattern) gaps() []string {
	var l []string
	for k, word := range strings.Split(p.text, "|") {
		if k%2 == 1 {
			l = append(l, word)
		}
	}
	return l
}

// filled fills a gap with some expression, and the others with leaves.
func (p pattern) filled(gap int, x string) string {
	words := strings.Split(p.text, "|")
	for k := 1; k < len(words); k += 2 {
		words[k] = leaves()[words[k]]
		if k/2 == gap {
			words[k] = x
		}
	}
	return strings.Join(words, "")
}

// asModelled checks the code of a program, its validity, and what it does for some decisions.
func asModelled(t *testing.T, p api.Prog, message string) {
	t.Helper()
	c := comp.Compile(valid(t, p))
	if want := modelCompile(p); printed(c) != printed(want) {
		t.Errorf("%s: %s; want %s", message, listing(c), listing(want))
	}
	depths, ok := comp.Depths(c)
	if !ok {
		t.Errorf("%s: the code is not valid", message)
		return
	}
	m := maker{rand.New(rand.NewSource(int64(len(message))))}
	for _, e := range tracedEntries(p, c)[:3] {
		for range 4 {
			sameTrace(t, c, depths, e, []bool{m.Intn(2) > 0, m.Intn(2) > 0, m.Intn(2) > 0, m.Intn(2) > 0, m.Intn(2) > 0})
		}
	}
}

// P14.1, P14.4: each kind of expression within each other one.
func TestExpressionsInEachOther(t *testing.T) {
	all, count := append(exprPatterns(), functionPatterns()...), 0
	for _, outer := range all {
		outer = outer.in(7)
		for k, form := range outer.gaps() {
			for _, inner := range all {
				if inner.form != form {
					continue
				}
				x := outer.filled(k, inner.in(9).filled(-1, ""))
				asModelled(t, withFun(outer.form, expr(x)), x)
				count++
			}
		}
	}
	if count < 1000 {
		t.Errorf("only %d expressions", count)
	}
}

// P14.1, P14.4: each kind of expression within each kind of statement.
func TestExpressionsInStatements(t *testing.T) {
	count := 0
	for _, outer := range stmtPatterns() {
		outer = outer.in(5)
		for k, form := range outer.gaps() {
			for _, inner := range exprPatterns() {
				if inner.form == form {
					s := strings.ReplaceAll(outer.filled(k, inner.in(9).filled(-1, "")), "#", "set0(int2)")
					asModelled(t, withBody(s), s)
					count++
				}
			}
		}
	}
	if count < 300 {
		t.Errorf("only %d statements", count)
	}
}

// P14.1, P14.4: each kind of statement within each other one, within each other one, with another one before or behind it.
func TestStatementsInEachOther(t *testing.T) {
	all, count := stmtPatterns(), 0
	for a, outer := range all {
		for b, middle := range all {
			for c, inner := range all {
				if !strings.Contains(outer.text, "#") || !strings.Contains(middle.text, "#") {
					continue
				}
				x := strings.Replace(inner.in(9).filled(-1, ""), "#", "", 1)
				y := strings.Replace(middle.in(7).filled(-1, ""), "#", pick3(a+b+c, x, "set0(int3) "+x, x+" set0(int3)"), 1)
				s := strings.Replace(outer.in(5).filled(-1, ""), "#", pick3(a+2*b+c, y, "let11(int3) "+y, y+" let11(int3)"), 1)
				s = strings.ReplaceAll(strings.Join(strings.Fields(s), " "), "{ ", "{")
				asModelled(t, withBody(s), s)
				count++
			}
		}
	}
	if count < 2000 {
		t.Errorf("only %d statements", count)
	}
}

func pick3(k int, a, b, c string) string { return []string{a, b, c}[k%3] }
