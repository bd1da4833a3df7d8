package check_test

import (
	"fmt"
	"reflect"
	"slices"
	"strings"
	"testing"

	"retroact/api"
	"retroact/check"
	"retroact/types"
)

// decls are used by the tables of the tests. The functions that follow them begin at number 4.
const decls = `
record P { x: int, y: [int] } record E { } record N { p: P, v: V, r: ref W }
variant V { A(int), B(P, text), C } variant O { No, Some(V) } variant T { T(int, int, int) }
effect pay(a: int): bool effect ask(): text effect tell(t: text, u: [V]): unit
fun f(n: int): int = n fun v(): V = C fun p(): P = P { x = 1, y = [] } fun h(g: fun(int, text): bool, l: [int]): bool = g(1, "")
actor Main() { on Go(n: int) { } on Ok(b: bool) { } } actor W(k: int, m: ref Main) { on Do(x: int, y: text) { } on Stop() { } }
`

// showFields shows fields or parameters.
func showFields(l []api.Field) string {
	var words []string
	for _, f := range l {
		words = append(words, f.Name+": "+types.Show(f.Type))
	}
	return strings.Join(words, ", ")
}

// form is a name for an operator, and whether N and M are shown even if they are 0.
type form struct {
	name         string
	withN, withM bool
}

func exprForms() []form {
	return []form{
		api.XUnit: {"unit", false, false}, api.XBool: {"bool", true, false}, api.XInt: {"int", true, false}, api.XText: {"text", false, false},
		api.XLocal: {"local", true, false}, api.XState: {"state", true, false}, api.XSelf: {"self", false, false}, api.XList: {"list", false, false},
		api.XRec: {"rec", false, false}, api.XGet: {"get", true, false}, api.XWith: {"with", true, false}, api.XCtor: {"ctor", true, false},
		api.XMatch: {"match", false, false}, api.XArm: {"arm", true, true}, api.XIf: {"if", false, false}, api.XAnd: {"and", false, false},
		api.XOr: {"or", false, false}, api.XNot: {"not", false, false}, api.XNeg: {"neg", false, false}, api.XAdd: {"add", false, false},
		api.XSub: {"minus", false, false}, api.XMul: {"mul", false, false}, api.XDiv: {"div", false, false}, api.XMod: {"mod", false, false},
		api.XCat: {"cat", false, false}, api.XEq: {"eq", false, false}, api.XNe: {"ne", false, false}, api.XLt: {"lt", false, false},
		api.XLe: {"le", false, false}, api.XGt: {"gt", false, false}, api.XGe: {"ge", false, false}, api.XLet: {"let", true, false},
		api.XCall: {"call", true, false}, api.XFun: {"fun", true, false}, api.XApply: {"apply", false, false}, api.XPrim: {"prim", true, false},
	}
}

func stmtForms() []form {
	return []form{
		api.SLet: {"let", true, false}, api.SSet: {"set", true, false}, api.SIf: {"if", false, false}, api.SMatch: {"match", false, false},
		api.SArm: {"arm", true, true}, api.SFor: {"for", true, false}, api.SSend: {"send", false, false}, api.SAfter: {"after", false, false},
		api.SSpawn: {"spawn", true, true}, api.SDo: {"do", false, false}, api.SStop: {"stop", false, false}, api.SFail: {"fail", false, false},
	}
}

// start shows an operator and its numbers. No two operators, and no two numbers, are shown alike.
func start(forms []form, op, n, m int) string {
	if op < 1 || op >= len(forms) {
		return fmt.Sprint("?", op, "/", n, "/", m)
	}
	s := forms[op].name
	if n != 0 || forms[op].withN {
		s += fmt.Sprint(n)
	}
	if m != 0 || forms[op].withM {
		s += fmt.Sprint("/", m)
	}
	return s
}

// show shows all fields of an expression: `local1`, `list(int1 int2)`, `rec'P'(int1 list)`, `match(local0 arm0/1(local1) arm-1/1(int3))`.
func show(x api.Expr) string {
	s := start(exprForms(), x.Op, x.N, x.M)
	if x.S != "" || x.Op == api.XText {
		s += "'" + x.S + "'"
	}
	if len(x.Kids) > 0 {
		s += "(" + showAll(x.Kids) + ")"
	}
	return s
}

func showAll(l []api.Expr) string {
	var words []string
	for _, x := range l {
		words = append(words, show(x))
	}
	return strings.Join(words, " ")
}

// showBlock shows all fields of statements: `if(bool1)then{stop}else{set0(int1)}`, `spawn2/1'W'(int3 int4)`, `do'pay”Ok'(int1)`.
func showBlock(l []api.Stmt) string {
	var words []string
	for _, x := range l {
		s := start(stmtForms(), x.Op, x.N, x.M)
		if x.S != "" || x.T != "" {
			s += "'" + x.S + "'"
		}
		if x.T != "" {
			s += "'" + x.T + "'"
		}
		if len(x.Xs) > 0 {
			s += "(" + showAll(x.Xs) + ")"
		}
		for _, part := range []struct {
			name string
			l    []api.Stmt
		}{{"then", x.Then}, {"else", x.Else}, {"arms", x.Arms}} {
			if len(part.l) > 0 {
				s += part.name + "{" + showBlock(part.l) + "}"
			}
		}
		words = append(words, s)
	}
	return strings.Join(words, " ")
}

// showFun shows all fields of a function: `f(n: int): int 1 = local0`, in which 1 is the number of slots.
func showFun(f api.Fun) string {
	return fmt.Sprint(f.Name, "(", showFields(f.Params), "): ", types.Show(f.Result), " ", f.Slots, " = ", show(f.Body))
}

// printed shows all fields of a value; nil and empty slices are alike.
func printed(x any) string { return fmt.Sprintf("%+v", x) }

// checked returns the program of a source without errors.
func checked(t *testing.T, s string) api.Prog {
	t.Helper()
	p, e, at := check.Check(s)
	if e != api.OK || at != 0 {
		t.Fatalf("%s: error %d at %d: ^%s", s, e, at, s[at:])
	}
	if problem := invalid(p); problem != "" {
		t.Fatalf("%s: the program is not valid: %s", s, problem)
	}
	return p
}

// outcome is what CheckPatch returns.
type outcome struct {
	api.Patch
	e  api.Errno
	at int
}

func patch(s string) outcome {
	p, convs, moves, drops, e, at := check.CheckPatch(s)
	return outcome{api.Patch{Prog: p, Convs: convs, Moves: moves, Drops: drops}, e, at}
}

// patched returns the patch of a patch file without errors.
func patched(t *testing.T, s string) api.Patch {
	t.Helper()
	got := patch(s)
	if got.e != api.OK || got.at != 0 {
		t.Fatalf("%s: error %d at %d: ^%s", s, got.e, got.at, s[got.at:])
	}
	if problem := invalid(got.Prog); problem != "" {
		t.Fatalf("%s: the program is not valid: %s", s, problem)
	}
	return got.Patch
}

// marked takes the mark ^ out of a source, and returns its offset.
func marked(t *testing.T, s string) (string, int) {
	t.Helper()
	before, after, found := strings.Cut(s, "^")
	if !found || strings.Contains(after, "^") {
		t.Fatal("not one mark in", s)
	}
	return before + after, len(before)
}

// fails checks that a source, as a program and as a patch file, has an error at the mark ^, and no other result.
func fails(t *testing.T, want api.Errno, s string) {
	t.Helper()
	s, offset := marked(t, s)
	p, e, at := check.Check(s)
	if e != want || at != offset || printed(p) != printed(api.Prog{}) {
		t.Errorf("%s: error %d at %d: ^%s; want %d at %d: ^%s", s, e, at, s[at:], want, offset, s[offset:])
	}
	if got := patch(s); printed(got) != printed(outcome{e: e, at: at}) {
		t.Errorf("%s: the patch file has error %d at %d", s, got.e, got.at)
	}
}

// failsAsPatch checks a patch file that is no program.
func failsAsPatch(t *testing.T, want api.Errno, s string) {
	t.Helper()
	s, offset := marked(t, s)
	got := patch(s)
	if got.e != want || got.at != offset {
		t.Errorf("%s: error %d at %d: ^%s; want %d at %d: ^%s", s, got.e, got.at, s[got.at:], want, offset, s[offset:])
	}
	if printed(got) != printed(outcome{e: got.e, at: got.at}) {
		t.Errorf("%s: there is a result beside the error", s)
	}
}

// placed puts parts into a source in the places of #.
func placed(s string, parts ...string) string {
	for _, part := range parts {
		s = strings.Replace(s, "#", part, 1)
	}
	return s
}

// failsAt checks that a source has an error at a part of it.
func failsAt(t *testing.T, want api.Errno, s, part string) {
	t.Helper()
	fails(t, want, strings.Replace(s, part, "^"+part, 1))
}

// region is the memory of a slice, with the elements beyond its length.
type region struct{ from, to uintptr }

func regions(v reflect.Value) []region {
	var l []region
	switch v.Kind() {
	case reflect.Slice:
		if size := uintptr(v.Cap()) * v.Type().Elem().Size(); size > 0 {
			l = append(l, region{v.Pointer(), v.Pointer() + size})
		}
		for k := range v.Len() {
			l = append(l, regions(v.Index(k))...)
		}
	case reflect.Struct:
		for k := range v.NumField() {
			l = append(l, regions(v.Field(k))...)
		}
	}
	return l
}

// unshared checks that no two slices in values share memory.
func unshared(t *testing.T, values ...any) {
	t.Helper()
	var l []region
	for _, x := range values {
		l = append(l, regions(reflect.ValueOf(x))...)
	}
	slices.SortFunc(l, func(a, b region) int { return int(a.from) - int(b.from) })
	for k := 1; k < len(l); k++ {
		if l[k-1].to > l[k].from {
			t.Fatal("slices share memory")
		}
	}
}

// spoil changes every number, string and bool within the value that a pointer points to.
func spoil(pointer any) { spoilValue(reflect.ValueOf(pointer).Elem()) }

func spoilValue(v reflect.Value) {
	switch v.Kind() {
	case reflect.Int:
		v.SetInt(v.Int() + 1)
	case reflect.String:
		v.SetString(v.String() + "!")
	case reflect.Bool:
		v.SetBool(!v.Bool())
	case reflect.Slice:
		for k := range v.Len() {
			spoilValue(v.Index(k))
		}
	case reflect.Struct:
		for k := range v.NumField() {
			spoilValue(v.Field(k))
		}
	}
}
