package mean_test

import (
	"strconv"
	"strings"
	"testing"

	"retroact/api"
	"retroact/mean"
	"retroact/value"
)

// head declares what the expressions of the tests use.
const head = `
record P { x: int, y: [int] } record E { } record N { p: P, v: V } variant V { A(int), B(P, text), C } variant O { O }
fun f(n: int): int = if n <= 0 then 0 else n + f(n - 1)
fun id(n: int): int = n
fun mk(k: int): fun(int): int = fun(x: int): int = x * k
fun twice(g: fun(int): int, n: int): int = g(g(n))
fun three(a: int, b: text, c: bool): text = if c then b ++ show(a) else b
fun none(): [int] = []
fun fault(n: int): bool = 1 / n == 1
fun loop(n: int): int = loop(n)
`

// samples are values of storable types, by their forms.
func samples() map[string]string {
	return map[string]string{"int": "0", "bool": "false", "text": `""`, "unit": "()", "[int]": "[]", "[[int]]": "[]", "[text]": "[]", "[bool]": "[]", "P": "P{0, []}", "E": "E{}", "N": "N{P{0, []}, V#2()}", "V": "V#2()", "[V]": "[]", "[P]": "[]", "O": "O#0()"}
}

// inPlaces evaluates an expression of a source in a function, in an initializer and in a handler, and checks that all agree.
func inPlaces(t *testing.T, form, x, want string, fault, used int) {
	t.Helper()
	p := compiled(t, head+"fun g(): "+form+" = "+x+" actor Main() { state s: "+form+" = "+x+" on Go() { s = "+x+" } }")
	before := printed(p)
	k := -1
	for at, f := range p.Funs {
		if f.Name == "g" {
			k = at
		}
	}
	v, kind, why := mean.Eval(p, k, nil)
	if kind != fault || why != "" || value.Show(v) != want || fault != api.FNone && printed(v) != printed(api.Value{}) {
		t.Errorf("%s: %s, fault %d, %q; want %s, fault %d", x, shortened(v), kind, why, want, fault)
	}
	if w, otherKind, _ := modelEval(p, k, nil); printed(w) != printed(v) || otherKind != kind {
		t.Errorf("%s: the model gives %s, fault %d", x, shortened(w), otherKind)
	}
	r := api.Result{Fault: fault, Used: used}
	if fault == api.FNone {
		r.Vars = plains(want)
	}
	gives(t, p, api.Call{Actor: "Main", Path: "0"}, r, x, " in an initializer")
	gives(t, p, api.Call{Actor: "Main", Path: "0", Vars: plains(samples()[form]), Msg: "Go"}, r, x, " in a handler")
	if printed(p) != before {
		t.Errorf("%s: the program has changed", x)
	}
}

const (
	most  = "9007199254740992"
	least = "-9007199254740992"
)

// P13.2, P13.3: the value of each kind of expression, and the fuel that it uses.
func TestValues(t *testing.T) {
	for _, c := range []struct {
		form, x, want string
		used          int
	}{
		{"unit", "()", "()", 0}, {"bool", "true", "true", 0}, {"bool", "false", "false", 0}, {"int", "0", "0", 0}, {"int", "12", "12", 0}, {"int", most, most, 0}, {"text", `""`, `""`, 0}, {"text", `"a\n\t\"\\b"`, `"a\n\t\"\\b"`, 0},
		{"[int]", "[]", "[]", 0}, {"[int]", "[1]", "[1]", 0}, {"[int]", "[3, 1, 2]", "[3, 1, 2]", 0}, {"[[int]]", "[[], [1, 2], []]", "[[], [1, 2], []]", 0}, {"[text]", `["b", "a"]`, `["b", "a"]`, 0},
		{"P", "P { x = 1, y = [2] }", "P{1, [2]}", 0}, {"P", "P { y = [2], x = 1 }", "P{1, [2]}", 0}, {"E", "E { }", "E{}", 0}, {"N", "N { v = C, p = P { x = 0, y = [] } }", "N{P{0, []}, V#2()}", 0},
		{"int", "P { x = 5, y = [2] }.x", "5", 0}, {"[int]", "P { x = 5, y = [2] }.y", "[2]", 0}, {"int", "N { v = C, p = P { x = 7, y = [] } }.p.x", "7", 0}, {"V", "N { v = A(1), p = P { x = 7, y = [] } }.v", "V#0(1)", 0},
		{"P", "P { x = 1, y = [2] } with { x = 9 }", "P{9, [2]}", 0}, {"P", "P { x = 1, y = [2] } with { y = [8] }", "P{1, [8]}", 0}, {"P", "P { x = 1, y = [2] } with { y = [8], x = 7 }", "P{7, [8]}", 0}, {"int", "let p = P { x = 1, y = [2] } in (p with { x = 9 }).x * 10 + p.x", "91", 0},
		{"V", "A(3)", "V#0(3)", 0}, {"V", `B(P { x = 1, y = [] }, "s")`, `V#1(P{1, []}, "s")`, 0}, {"V", "C", "V#2()", 0}, {"O", "O", "O#0()", 0}, {"[V]", "[C, A(1), C]", "[V#2(), V#0(1), V#2()]", 0},
		{"int", "match A(5) { A(x) => x, B(_, _) => 1, C => 2 }", "5", 0}, {"int", "match C { A(x) => x, B(_, _) => 1, C => 2 }", "2", 0}, {"text", `match B(P { x = 1, y = [] }, "t") { A(x) => show(x), B(p, s) => show(p.x) ++ s, C => "" }`, `"1t"`, 0},
		{"int", "match C { _ => 3 }", "3", 0}, {"int", "match A(1) { A(x) => x, _ => 4 }", "1", 0}, {"int", "match C { A(x) => x, _ => 4 }", "4", 0}, {"int", "match O { O => 1 }", "1", 0}, {"int", "let x = 1 in match A(2) { A(y) => match A(3) { A(z) => x * 100 + y * 10 + z, _ => 0 }, _ => 0 }", "123", 0},
		{"int", "if true then 1 else 2", "1", 0}, {"int", "if false then 1 else 2", "2", 0}, {"int", "if 1 < 2 then if 2 < 1 then 1 else 2 else 3", "2", 0},
		{"bool", "true and true", "true", 0}, {"bool", "true and false", "false", 0}, {"bool", "false and true", "false", 0}, {"bool", "false and false", "false", 0}, {"bool", "true or true", "true", 0}, {"bool", "true or false", "true", 0}, {"bool", "false or true", "true", 0}, {"bool", "false or false", "false", 0},
		{"bool", "not true", "false", 0}, {"bool", "not false", "true", 0}, {"bool", "not (1 == 2)", "true", 0},
		{"int", "let x = 4 in x", "4", 0}, {"int", "let x = 4 in let y = x * 2 in y - x", "4", 0}, {"int", "let x = 1 in let x = x + 1 in x", "2", 0}, {"int", "(let x = 1 in x) + (let x = 2 in x)", "3", 0},
		{"int", "-5", "-5", 0}, {"int", "-0", "0", 0}, {"int", "-(-5)", "5", 0}, {"int", "-" + most, least, 0}, {"int", "-(-" + most + ")", most, 0},
		{"int", "2 + 3", "5", 0}, {"int", "2 - 3", "-1", 0}, {"int", "2 * -3", "-6", 0}, {"int", "7 / 2", "3", 0}, {"int", "-7 / 2", "-3", 0}, {"int", "7 / -2", "-3", 0}, {"int", "-7 / -2", "3", 0}, {"int", "7 % 2", "1", 0}, {"int", "-7 % 2", "-1", 0}, {"int", "7 % -2", "1", 0}, {"int", "-7 % -2", "-1", 0}, {"int", "0 / 5", "0", 0}, {"int", "0 % 5", "0", 0},
		{"int", "10 - 3 - 2", "5", 0}, {"int", "1 + 2 * 3", "7", 0},
		{"text", `"" ++ ""`, `""`, 0}, {"text", `"a" ++ "b" ++ "c"`, `"abc"`, 0}, {"[int]", "[1] ++ [2, 3]", "[1, 2, 3]", 0}, {"[int]", "[] ++ []", "[]", 0}, {"[int]", "[] ++ [1]", "[1]", 0}, {"[[int]]", "[[1]] ++ [[]]", "[[1], []]", 0},
		{"int", "id(7)", "7", 1}, {"int", "f(0)", "0", 1}, {"int", "f(4)", "10", 5}, {"text", `three(1, "a", true)`, `"a1"`, 1}, {"[int]", "none()", "[]", 1}, {"int", "id(id(id(1)))", "1", 3}, {"int", "id(1) + id(2)", "3", 2},
		{"int", "mk(3)(4)", "12", 2}, {"int", "twice(mk(3), 2)", "18", 4}, {"int", "twice(id, 2)", "2", 3}, {"int", "(fun(): int = 5)()", "5", 1}, {"int", "let k = 2 in (fun(x: int): int = x - k)(7)", "5", 1}, {"int", "let a = 1 in let b = 2 in (fun(x: int, y: int): int = a * 1000 + b * 100 + x * 10 + y)(3, 4)", "1234", 1},
		{"int", "at([mk(2), mk(3)], 1)(5)", "15", 3}, {"int", "let g = mk(5) in g(1) + g(2)", "15", 3}, {"int", "let g = id in g(3)", "3", 1}, {"int", "let k = 1 in (fun(): fun(): int = let j = k + 1 in fun(): int = j * 10 + k)()()", "21", 2},
		{"int", "len(none())", "0", 1}, {"int", "len([1, 2, 3])", "3", 0}, {"int", "len([none(), []])", "2", 1}, {"int", `size("")`, "0", 0}, {"int", `size("a\nb")`, "3", 0}, {"int", "size(\"\xc3\xa4\")", "2", 0},
		{"text", "show(0)", `"0"`, 0}, {"text", "show(-12)", `"-12"`, 0}, {"text", "show(" + least + ")", `"` + least + `"`, 0}, {"text", "show(-0)", `"0"`, 0},
	} {
		inPlaces(t, c.form, c.x, c.want, api.FNone, c.used)
	}
}

// P13.2, P13.3: comparisons of all sorts of values.
func TestComparisons(t *testing.T) {
	holds := func(op string, order int) bool {
		return map[string]bool{"==": order == 0, "!=": order != 0, "<": order < 0, "<=": order <= 0, ">": order > 0, ">=": order >= 0}[op]
	}
	for _, op := range []string{"==", "!=", "<", "<=", ">", ">="} {
		for _, ascending := range [][]string{{least, "-10", "-9", "-1", "0", "1", "9", "10", most}, {`""`, `"\n"`, `" "`, `"10"`, `"9"`, `"A"`, `"a"`, `"aa"`, `"ab"`, `"b"`, "\"\x7f\"", "\"\x80\"", "\"\xff\""}} {
			for j, a := range ascending {
				for k, b := range ascending {
					inPlaces(t, "bool", a+" "+op+" "+b, strconv.FormatBool(holds(op, j-k)), api.FNone, 0)
				}
			}
		}
	}
	for _, l := range [][]string{
		{"()"}, {"true", "false"}, {"[1]", "[1, 1]", "[2]", "[1, 2]", "[2, 1]"}, {"[[1]]", "[[2]]", "[[1], [1]]"}, {"P { x = 1, y = [] }", "P { x = 2, y = [] }", "P { x = 1, y = [0] }"}, {"E { }"},
		{"A(1)", "A(2)", "C", `B(P { x = 1, y = [] }, "a")`, `B(P { x = 1, y = [] }, "b")`, `B(P { x = 1, y = [1] }, "a")`}, {"O"}, {"N { p = P { x = 1, y = [] }, v = C }", "N { p = P { x = 1, y = [] }, v = A(0) }"},
	} {
		for j, a := range l {
			for k, b := range l {
				inPlaces(t, "bool", a+" == "+b, strconv.FormatBool(j == k), api.FNone, 0)
				inPlaces(t, "bool", a+" != "+b, strconv.FormatBool(j != k), api.FNone, 0)
			}
		}
	}
}

// P13.2, P13.3: overflow and division by zero at the bounds of the integers.
func TestArithmeticBounds(t *testing.T) {
	over, zero, none := api.FOver, api.FZero, api.FNone
	for _, c := range []struct {
		x, want string
		fault   int
	}{
		{most + " + 0", most, none}, {most + " + 1", "", over}, {"1 + " + most, "", over}, {"9007199254740991 + 1", most, none}, {"9007199254740991 + 2", "", over}, {"-" + most + " + -1", "", over}, {"-9007199254740991 + -1", least, none}, {most + " + " + most, "", over}, {most + " + -" + most, "0", none},
		{"-" + most + " - 0", least, none}, {"-" + most + " - 1", "", over}, {most + " - -1", "", over}, {"-9007199254740991 - 1", least, none}, {"0 - " + most, least, none}, {"1 - -" + most, "", over}, {"-1 - " + most, "", over}, {most + " - " + most, "0", none},
		{most + " * 1", most, none}, {most + " * -1", least, none}, {most + " * 0", "0", none}, {most + " * 2", "", over}, {"2 * -" + most, "", over}, {"94906265 * 94906265", "9007199136250225", none}, {"94906266 * 94906266", "", over}, {"94906266 * -94906266", "", over}, {"4503599627370496 * 2", most, none}, {"4503599627370496 * -2", least, none}, {"4503599627370497 * 2", "", over}, {most + " * " + most, "", over}, {"4294967296 * 4294967296", "", over}, {"-" + most + " * -" + most, "", over},
		{"1 / 0", "", zero}, {"0 / 0", "", zero}, {"-1 / 0", "", zero}, {most + " / 0", "", zero}, {"1 % 0", "", zero}, {"0 % 0", "", zero}, {"-" + most + " % 0", "", zero}, {"1 / (1 - 1)", "", zero},
		{most + " / 1", most, none}, {"-" + most + " / -1", most, none}, {most + " / " + most, "1", none}, {most + " % " + most, "0", none}, {"-" + most + " % 9007199254740991", "-1", none}, {most + " / -1", least, none}, {"1 / " + most, "0", none}, {"-1 % " + most, "-1", none},
		{"-(" + most + " + 1)", "", over}, {"-(1 / 0)", "", zero},
	} {
		inPlaces(t, "int", c.x, c.want, c.fault, 0)
	}
}

// P13.2, P13.3: indices of lists and texts at each bound and beyond it.
func TestIndices(t *testing.T) {
	bounds := []int{-api.MaxNum, -2, -1, 0, 1, 2, 3, 4, 5, 4096, 1 << 32, api.MaxNum}
	items := []string{"7", "8", "9", "6"}
	for size := range len(items) + 1 {
		l := "[" + strings.Join(items[:size], ", ") + "]"
		s := strings.Join(items[:size], "")
		for _, j := range bounds {
			at, put, fault := "", "", api.FIndex
			if 0 <= j && j < size {
				changed := append([]string{}, items[:size]...)
				changed[j] = "5"
				at, put, fault = items[j], "["+strings.Join(changed, ", ")+"]", api.FNone
			}
			if size > 0 {
				inPlaces(t, "int", "at("+l+", "+strconv.Itoa(j)+")", at, fault, 0)
			}
			inPlaces(t, "[int]", "put("+l+", "+strconv.Itoa(j)+", 5)", put, fault, 0)
			for _, k := range bounds {
				part, sub, fault := "", "", api.FIndex
				if 0 <= j && j <= k && k <= size {
					part, sub, fault = "["+strings.Join(items[j:k], ", ")+"]", `"`+s[j:k]+`"`, api.FNone
				}
				inPlaces(t, "[int]", "slice("+l+", "+strconv.Itoa(j)+", "+strconv.Itoa(k)+")", part, fault, 0)
				inPlaces(t, "text", `sub("`+s+`", `+strconv.Itoa(j)+", "+strconv.Itoa(k)+")", sub, fault, 0)
			}
		}
	}
	inPlaces(t, "int", "at(none(), 0)", "", api.FIndex, 1)
	inPlaces(t, "int", "at(none(), -1)", "", api.FIndex, 1)
}

// P13.2, P13.3: what is not reached is not evaluated, and has neither a fault nor a use of fuel.
func TestNotEvaluated(t *testing.T) {
	for _, c := range []struct {
		form, x, want string
		fault, used   int
	}{
		{"bool", "false and 1 / 0 == 1", "false", 0, 0}, {"bool", "true and 1 / 0 == 1", "", api.FZero, 0}, {"bool", "true or 1 / 0 == 1", "true", 0, 0}, {"bool", "false or 1 / 0 == 1", "", api.FZero, 0},
		{"bool", "false and fault(0)", "false", 0, 0}, {"bool", "true or fault(0)", "true", 0, 0}, {"bool", "true and fault(0)", "", api.FZero, 1}, {"bool", "false or fault(0)", "", api.FZero, 1}, {"bool", "fault(0) and false", "", api.FZero, 1}, {"bool", "fault(0) or true", "", api.FZero, 1},
		{"bool", "fault(1) and fault(2)", "false", 0, 2}, {"bool", "fault(2) and fault(0)", "false", 0, 1}, {"bool", "fault(2) or fault(1)", "true", 0, 2}, {"bool", "fault(1) or fault(0)", "true", 0, 1},
		{"int", "if true then id(1) else id(1 / 0)", "1", 0, 1}, {"int", "if false then id(1 / 0) else id(2)", "2", 0, 1}, {"int", "if true then 1 / 0 else 2", "", api.FZero, 0}, {"int", "if fault(0) then 1 else 2", "", api.FZero, 1}, {"int", "if true then 1 else loop(1)", "1", 0, 0},
		{"int", "match A(1) { A(x) => x, B(_, _) => 1 / 0, C => loop(1) }", "1", 0, 0}, {"int", "match C { A(x) => 1 / 0, B(_, _) => 1 / 0, C => 4 }", "4", 0, 0}, {"int", "match C { A(x) => 1 / 0, _ => 4 }", "4", 0, 0}, {"int", "match A(1 / 0) { _ => 4 }", "", api.FZero, 0}, {"int", "match A(1) { A(x) => x / 0, _ => 4 }", "", api.FZero, 0},
		{"int", "let x = 1 / 0 in 2", "", api.FZero, 0}, {"int", "let x = fun(): int = 1 / 0 in 2", "2", 0, 0}, {"int", "let x = loop in 2", "2", 0, 0}, {"int", "P { x = 1, y = [1 / 0] }.x", "", api.FZero, 0}, {"int", "len([1 / 0])", "", api.FZero, 0},
	} {
		inPlaces(t, c.form, c.x, c.want, c.fault, c.used)
	}
}
