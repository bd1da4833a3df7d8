package value_test

import (
	"strings"
	"testing"

	"retroact/api"
	"retroact/value"
)

// shown checks the form of a plain value, in both directions.
func shown(t *testing.T, v api.Value, form string) {
	t.Helper()
	if got := value.Show(v); got != form {
		t.Errorf("%.200q is shown as %.200q", form, got)
	}
	if got, ok := value.Parse(form); !ok || !equal(got, v) {
		t.Errorf("%.200q is parsed as %s, %v", form, shortened(got), ok)
	}
}

// unparsed checks that a string is no form.
func unparsed(t *testing.T, s string) {
	t.Helper()
	if got, ok := value.Parse(s); ok || !equal(got, api.Value{}) {
		t.Errorf("%.200q is parsed as %s, %v", s, shortened(got), ok)
	}
}

// P12.2: the forms of plain values, by hand.
func TestForms(t *testing.T) {
	for form, v := range map[string]api.Value{
		"()": unit(), "false": truth(0), "true": truth(1),
		"0": integer(0), "7": integer(7), "-1": integer(-1), "-10": integer(-10), "1002": integer(1002), "9007199254740992": integer(api.MaxNum), "-9007199254740992": integer(-api.MaxNum),
		`""`: text(""), `"a"`: text("a"), `"a\"b"`: text(`a"b`), `"\n\t\"\\"`: text("\n\t\"\\"), `"\\n"`: text(`\n`), `"\\\\"`: text(`\\`), `"\\\""`: text(`\"`), `"'/ ,]"`: text("'/ ,]"), "\"\r\x00\x7f\xff\"": text("\r\x00\x7f\xff"), "\"\u00e4\"": text("\u00e4"), `"true"`: text("true"),
		"[]": list(), "[()]": list(unit()), "[1]": list(integer(1)), "[1, 2]": list(integer(1), integer(2)), "[[], [[]], 3]": list(list(), list(list()), integer(3)), `[", ", "]"]`: list(text(", "), text("]")),
		`[-1, "a\"b"]`: list(integer(-1), text(`a"b`)),
		"P{}":          record("P"), "P{1}": record("P", integer(1)), "P{1, P{}, true}": record("P", integer(1), record("P"), truth(1)), "A_9z{\"}\"}": record("A_9z", text("}")), "True{}": record("True"), "Z{()}": record("Z", unit()),
		"V#0()": variant("V", 0), "V#1(true)": variant("V", 1, truth(1)), "V#4096()": variant("V", 4096), "V#10(1, (), V#0())": variant("V", 10, integer(1), unit(), variant("V", 0)), "Shape#0(3)": variant("Shape", 0, integer(3)), "P#2(P{}, [])": variant("P", 2, record("P"), list()),
		"Main@0": reference("Main", "0"), "Counter@0.2": reference("Counter", "0.2"), "A_1@0.10.2": reference("A_1", "0.10.2"), "B@0.9007199254740992": reference("B", "0.9007199254740992"),
		"[A@0, A@0.1, B@0.1.2]": list(reference("A", "0"), reference("A", "0.1"), reference("B", "0.1.2")), "P{A@0}": record("P", reference("A", "0")), "V#0(A@0.5, -5)": variant("V", 0, reference("A", "0.5"), integer(-5)),
		"[0, -3, 12]": list(integer(0), integer(-3), integer(12)), "[true, false, ()]": list(truth(1), truth(0), unit()),
	} {
		shown(t, v, form)
		for _, within := range containers() {
			agree(t, within(v))
		}
	}
}

// P12.2: each byte in a text, alone and between others.
func TestBytesOfTexts(t *testing.T) {
	all := ""
	for c := range 256 {
		b := string([]byte{byte(c)})
		form := b
		switch b {
		case "\n":
			form = `\n`
		case "\t":
			form = `\t`
		case `"`, `\`:
			form = `\` + b
		}
		shown(t, text(b), `"`+form+`"`)
		shown(t, text("n"+b+b+"t"), `"n`+form+form+`t"`)
		shown(t, list(text(b), record("P", text(`\`+b))), `["`+form+`", P{"\\`+form+`"}]`)
		all += b
		// A byte that stands for itself is not written as an escape, nor the other way round.
		if form != b {
			unparsed(t, `"`+b+`"`)
			unparsed(t, `"a`+b+`b"`)
		}
		if !strings.Contains(`nt"\`, b) {
			unparsed(t, `"\`+b+`"`)
			unparsed(t, `"a\`+b+`b"`)
		}
	}
	agree(t, text(all))
	agree(t, text(strings.Repeat("\n\t\"\\", api.MaxText/4)))
	agree(t, text(strings.Repeat("\n\t\"\\", api.MaxText/4)+"\n"))
}

// P12.2: values that are not plain, for one reason each, have no form.
func TestNotPlain(t *testing.T) {
	for _, v := range []api.Value{closure(0), closure(3, integer(1)), closure(0, closure(0)), span(0, 1), span(-5, 5), {}, {Kind: 11}, integer(api.MaxNum + 1), text(strings.Repeat("x", api.MaxText+1)), truth(2), record("p"), variant("V", 4097), reference("A", "1"), {Kind: api.VUnit, N: 1}} {
		for _, within := range containers() {
			for _, x := range []api.Value{v, within(v), nested(v, within, containers()[1], containers()[2])} {
				if got := value.Show(x); got != "" {
					t.Errorf("%s is shown as %q", shortened(x), got)
				}
				agree(t, x)
			}
		}
	}
}

// P12.2: strings that are no forms, by hand.
func TestNoForms(t *testing.T) {
	for _, s := range []string{
		"", " ", "\x00", "x", "P", "V", "unit", "nil", "_", ",", ", ", "-", "--1", "+", "#", "@", "P Q", "\xff",
		"(", ")", "( )", "()()", "(())", "() ", " ()", "(1)", "(1, 2)", "[)", "(]", "{}", "[}",
		"True", "False", "TRUE", "t", "tru", "truee", "true1", "true_", "true()", "true{}", "true#0()", "true@0", "false true", "falsefalse", "false,", "fals", "bool",
		"00", "01", "-0", "-01", "+1", "+0", "1.0", "1.", ".1", "1e3", "0x1", "1_000", "1 ", " 1", "1\n", "1-", "1-1", "- 1", "-", "1A", "A1", "1a", "9007199254740993", "-9007199254740993", "9223372036854775807", "-9223372036854775808", "18446744073709551617", "99999999999999999999999", "\u0661", "1,", "1, 2",
		`"`, `"a`, `a"`, `"""`, `"a"b"`, `"\"`, `"\\\"`, `"\x"`, `"\r"`, `"\N"`, `"\0"`, `"\u0041"`, `"\'"`, "\"\n\"", "\"a\tb\"", `'a'`, `""a`, `"a" `, ` "a"`, `"a" "b"`, "`a`",
		"[", "]", "[]]", "[[]", "[,]", "[, ]", "[1,]", "[1, ]", "[,1]", "[, 1]", "[1,2]", "[1,  2]", "[1 , 2]", "[ 1]", "[1 ]", "[ ]", "[1, 2", "1, 2]", "[1 2]", "[1,\t2]", "[1,\n2]", "[1; 2]", "[1]]", "[1][2]", "[1, 2, ]", "[1,, 2]", "[1}", "[1)", "[[1, 2]", "[x]", "[P]", "[\x00]", "[] ", "\n[]",
		"P{", "P}", "P{}}", "P{{}}", "P {}", "P{ }", "P{1,2}", "P{1 }", "P{ 1}", "P{1, }", "P{, 1}", "P{]", "P{)", "p{}", "_P{}", "9P{}", "{1}", "P[1]", "P(1)", "P()", "P{x = 1}", "P{}P{}", "P Q{}", "P-Q{}", "P.Q{}", "\u00c4{}", "P\u00e4{}", "-P{}", "P-{}",
		"V#", "V#0", "V#0(", "V#0)", "V#()", "V#0[]", "V#0{}", "V#01()", "V#00()", "V#-0()", "V#-1()", "V#+1()", "V#4097()", "V#10000()", "V#18446744073709551616()", "V# 0()", "V #0()", "V#0 ()", "V#0( )", "V#0(1,2)", "V#0(1, )", "V#0(1}", "v#0()", "#0()", "V0()", "V##0()", "V#A()", "V#true()", "V#0()()", "V#0", "V@0()", "V#1.0()",
		"A@", "A@1", "A@00", "A@0.", "A@.0", "A@0..1", "A@0.01", "A@-0", "A@0.-1", "A@0.+1", "A@ 0", "A @0", "A@0 ", "A@0.9007199254740993", "a@0", "@0", "A@@0", "A@0@0", "A@x", "A@\"0\"", "A@0.1.", "A@0.1a", "A@0,1", "[A@0.]", "[A@, 1]", "A@0" + strings.Repeat(".1", 100), "[A@0, A@]",
		"#0(1)", "fun", "VFun", "0..1", "1..2", "span", "P{1, [2, (]}",
	} {
		unparsed(t, s)
		if modelParses(s) {
			t.Errorf("the model parses %q", s)
		}
	}
}

// P12.2, P12.6: every prefix of a form, a form with bytes appended, inserted, removed or exchanged.
func TestNearForms(t *testing.T) {
	count := 0
	check := func(s string) {
		want, ok := modelParse(s)
		if ok {
			count++
			shown(t, want, s)
		} else {
			unparsed(t, s)
		}
	}
	for _, v := range valids() {
		form := value.Show(v)
		if form == "" || len(form) > 60 {
			continue
		}
		for k := range len(form) + 1 {
			check(form[:k])
			check(form[k:])
			for _, piece := range []string{" ", "  ", ",", ", ", "\n", "\t", "\x00", "\"", "\\", "0", "1", "-", ".", "A", "a", "_", "()", "[]", "[", "]", "{", "}", "(", ")", "#", "@", "true", "1, "} {
				check(form[:k] + piece + form[k:])
			}
			if k == len(form) {
				continue
			}
			check(form[:k] + form[k+1:])
			check(form[:k] + form[k:k+1] + form[k:])
			for c := range 256 {
				check(form[:k] + string([]byte{byte(c)}) + form[k+1:])
			}
		}
	}
	if count < 5000 {
		t.Error("only", count, "forms")
	}
}

// P12.2, P12.6: all short strings out of the bytes that matter, behind some beginnings.
func TestShortStrings(t *testing.T) {
	for _, x := range []struct {
		before, alphabet string
		size             int
	}{
		{"", "()[]{}\"\\n,  #@0.1-Aa", 4}, {"", "[], 1", 7}, {"", "[]()\", ", 5}, {"A", "#@{}(), 0", 6}, {"A#", "()01, -", 5}, {"A@", "0.1-A ", 6}, {"\"", "\"\\nt\n\tx", 6}, {"", "0-9", 8},
	} {
		count := 0
		short(x.alphabet, x.size, func(s string) {
			s = x.before + s
			got, ok := value.Parse(s)
			want, parses := modelParse(s)
			if ok != parses || !equal(got, want) {
				t.Errorf("%q is parsed as %s, %v; want %v", s, shortened(got), ok, parses)
			}
			if ok {
				count++
			}
		})
		if count < 15 {
			t.Errorf("only %d forms out of %q", count, x.alphabet)
		}
	}
}

// P12.2: forms at the limits of values.
func TestLongForms(t *testing.T) {
	repeat := func(s string, count int) string {
		return strings.TrimSuffix(strings.Repeat(s+", ", count), ", ")
	}
	long := strings.Repeat("x", api.MaxText)
	shown(t, text(long), `"`+long+`"`)
	unparsed(t, `"`+long+`x"`)
	shown(t, text(strings.Repeat("\n", api.MaxText)), `"`+strings.Repeat(`\n`, api.MaxText)+`"`)
	unparsed(t, `"`+strings.Repeat(`\n`, api.MaxText+1)+`"`)
	shown(t, list(many(api.MaxList, integer(0))...), "["+repeat("0", api.MaxList)+"]")
	unparsed(t, "["+repeat("0", api.MaxList+1)+"]")
	unparsed(t, "[["+repeat("0", api.MaxList+1)+"]]")
	shown(t, record("P", many(api.MaxValue-1, unit())...), "P{"+repeat("()", api.MaxValue-1)+"}")
	unparsed(t, "P{"+repeat("()", api.MaxValue)+"}")
	shown(t, variant("V", 3, many(api.MaxValue-1, truth(1))...), "V#3("+repeat("true", api.MaxValue-1)+")")
	unparsed(t, "V#3("+repeat("true", api.MaxValue)+")")
	shown(t, chain(api.MaxValue, list()), strings.Repeat("[", api.MaxValue)+strings.Repeat("]", api.MaxValue))
	unparsed(t, strings.Repeat("[", api.MaxValue+1)+strings.Repeat("]", api.MaxValue+1))
	shown(t, record("A"+strings.Repeat("b", 1<<16)), "A"+strings.Repeat("b", 1<<16)+"{}")
	shown(t, reference("A", "0"+strings.Repeat(".1", 98)+".12"), "A@0"+strings.Repeat(".1", 98)+".12")
	unparsed(t, "A@0"+strings.Repeat(".1", 98)+".123")
}

// P1, P12.2: long strings that are no forms end without a panic.
func TestLongStrings(t *testing.T) {
	const size = 1 << 20
	for _, s := range []string{"[", "P{", "V#0(", "\"", "\"\\n", "\\", "[]", "[], ", "1", "-", "0", "A", "a", "A@0.", "0.", " ", ", ", "(", "()", "V#", "\x00", "[\"", "true"} {
		for _, before := range []string{"", "[", "\"", "P{", "[1, ", "V#", "A@0", "A@"} {
			unparsed(t, before+strings.Repeat(s, size/len(s))+"?")
		}
	}
}
