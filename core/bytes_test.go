package core_test

import (
	"strings"
	"testing"

	"retroact/api"
	"retroact/code"
	"retroact/core"
)

// everyPart returns a program with each part that a serialization has, and its bytes.
func everyPart() (api.Prog, string) {
	p := api.Prog{
		Types: []api.Decl{
			{Name: "P", Record: true, Ctors: []api.Ctor{{Name: "P", Fields: fields("x", "[int]")}}},
			{Name: "V", Ctors: []api.Ctor{{Name: "A"}, {Name: "B", Fields: fields("", "P", "", "bool")}}},
		},
		Effects: []api.Effect{{Name: "pay", Params: fields("n", "ref Main"), Answer: typ("unit")}},
		Funs: []api.Fun{
			{Name: "f", Params: fields("g", "fun(int): text"), Result: typ("V"), Slots: 300, Body: expr("match(ctor0'V' arm0/299(ctor0'V') arm-1/300(ctor1'V'(rec'P'(list) bool1)))")},
			{Result: typ("int"), Body: expr("int-64")},
		},
		Actors: []api.Actor{
			{Name: "Main", Slots: 2, Vars: []api.Var{{Name: "a", Type: typ("int"), Init: expr("let0(text'\x00\xff' call1)")}}, On: []api.Handler{
				{Msg: "M", Params: fields("u", "unit"), Slots: 2, Body: block("if(bool1)then{set0(int64)}else{stop} match(ctor0'V')arms{arm-1/2then{spawn1/1'W'(int-1)}} do'pay''M'(self) after'M'(int2 self unit)")},
				{Msg: "N"},
			}, Policy: api.PoRestart, Most: 100},
			{Name: "W", Policy: api.PoEscalate},
		},
	}
	s := strings.Join([]string{
		"\x02",                            // two types
		"\x01P\x01\x01",                   // the record P, with one constructor
		"\x01P\x01\x01x\x05\x00\x01",      // P with the field x, which is a list
		"\x03\x00\x00",                    // of int
		"\x01V\x00\x02\x01A\x00\x01B\x02", // the variant V with the constructors A and B
		"\x00\x06\x01P\x00\x00\x02\x00\x00",
		"\x01\x03pay\x01\x01n\x07\x04Main\x00\x01\x00\x00", // one effect
		"\x02", // two functions
		"\x01f\x01\x01g\x08\x00\x02\x03\x00\x00\x04\x00\x00\x06\x01V\x00\xac\x02", // f with 300 slots
		"\x0d\x00\x00\x00\x03\x0c\x00\x00\x01V\x00",                               // the match of A
		"\x0e\x00\xd6\x04\x00\x01\x0c\x00\x00\x01V\x00",                           // the arm for A, with slot 299
		"\x0e\x01\xd8\x04\x00\x01\x0c\x02\x00\x01V\x02",                           // the arm for all, with slot 300
		"\x09\x00\x00\x01P\x01\x08\x00\x00\x00\x00\x02\x02\x00\x00\x00",           // P and true
		"\x00\x00\x03\x00\x00\x00\x03\x7f\x00\x00\x00",                            // the function without a name
		"\x02\x04Main\x00\x02\x01\x01a\x03\x00\x00",                               // two actors; Main has two slots and the variable a
		"\x20\x00\x00\x00\x02\x04\x00\x00\x02\x00\xff\x00\x21\x02\x00\x00\x00",    // let and call
		"\x02\x01M\x01\x01u\x01\x00\x00\x02\x04",                                  // two handlers; M has four statements
		"\x03\x00\x00\x00\x00\x01\x02\x02\x00\x00\x00",                            // if true
		"\x01\x02\x00\x00\x00\x00\x01\x03\x80\x01\x00\x00\x00\x00\x00\x00",        // then
		"\x01\x0b\x00\x00\x00\x00\x00\x00\x00\x00\x00",                            // else, and no arms
		"\x04\x00\x00\x00\x00\x01\x0c\x00\x00\x01V\x00\x00\x00\x01",               // match, with an arm
		"\x05\x01\x04\x00\x00\x00\x01\x09\x02\x02\x01W\x00\x01\x03\x01\x00\x00\x00\x00\x00\x00\x00\x00",
		"\x0a\x00\x00\x03pay\x01M\x01\x07\x00\x00\x00\x00\x00\x00\x00", // do
		"\x08\x00\x00\x01M\x00\x03\x03\x04\x00\x00\x00\x07\x00\x00\x00\x00\x01\x00\x00\x00\x00\x00\x00\x00",
		"\x01N\x00\x00\x00",             // the other handler
		"\x01\x64",                      // the policy, and 100 restarts
		"\x01W\x00\x00\x00\x00\x02\x00", // the other actor
	}, "")
	return p, s
}

// P11.2: the bytes of programs by hand.
func TestBytes(t *testing.T) {
	p, s := everyPart()
	for _, c := range []struct {
		p api.Prog
		s string
	}{
		{p, s}, {api.Prog{Actors: []api.Actor{{Name: "Main"}}}, "\x00\x00\x00\x01\x04Main\x00\x00\x00\x00\x00\x00"},
		{compiled(t, "actor Main() { state a: int = 1 }"), "\x00\x00\x00\x01\x04Main\x00\x00\x01\x01a\x03\x00\x00\x03\x02\x00\x00\x00\x00\x00\x00"},
		{api.Prog{}, ""}, {api.Prog{Actors: []api.Actor{{Name: "Main", Most: 1}}}, ""},
	} {
		right(t, c.p, c.s != "", c.s)
		if got := core.Bytes(c.p); got != c.s {
			t.Errorf("%q; want %q", got, c.s)
		}
		if q, ok := core.Read(c.s); ok != (c.s != "") || ok && printed(q) != printed(c.p) {
			t.Errorf("%q is read as %+v, %v", c.s, q, ok)
		}
	}
}

// serializations returns the bytes of valid programs of several sizes.
func serializations(t testing.TB) []string {
	p, _ := everyPart()
	l := []string{core.Bytes(p), core.Bytes(base()), core.Bytes(compiled(t, source))}
	for _, s := range validStatements() {
		l = append(l, core.Bytes(withBody(block(s))))
	}
	return l
}

// P11.2: Bytes has the parts in the order of the chapter, and Read inverts it.
func TestBytesAndRead(t *testing.T) {
	for _, s := range serializations(t) {
		p, ok := core.Read(s)
		if !ok || !core.Right(p) || core.Bytes(p) != s || serialized(p) != s {
			t.Errorf("%q is read as %v, %v", s, p, ok)
		}
	}
}

// notRead checks that a string is not read.
func notRead(t *testing.T, s string) {
	t.Helper()
	if p, ok := core.Read(s); ok || printed(p) != printed(api.Prog{}) {
		t.Errorf("%q is read as %v, %v", s, p, ok)
	}
}

// P11.2: no prefix of a serialization, no end of one, and none with bytes behind it is read.
func TestReadParts(t *testing.T) {
	notRead(t, "")
	for _, s := range serializations(t)[:3] {
		for k := range len(s) {
			notRead(t, s[:k])
		}
		for k := 1; k < len(s); k++ {
			notRead(t, s[k:])
		}
		for c := range 256 {
			notRead(t, s+string([]byte{byte(c)}))
			notRead(t, string([]byte{byte(c)})+s)
		}
		notRead(t, s+s)
		notRead(t, s+"\x00\x00\x00\x00")
	}
}

// P11.2: a string in which bytes are changed, added or removed is read only if it is the serialization of what is read.
func TestReadDamaged(t *testing.T) {
	_, s := everyPart()
	accepted, rejected := 0, 0
	try := func(s string) {
		p, ok := core.Read(s)
		switch {
		case !ok && printed(p) == printed(api.Prog{}):
			rejected++
		case ok && core.Right(p) && serialized(p) == s:
			accepted++
		default:
			t.Errorf("%q is read as %v, %v", s, p, ok)
		}
	}
	for k := range len(s) {
		for c := range 256 {
			try(s[:k] + string([]byte{byte(c)}) + s[k+1:])
		}
		try(s[:k] + s[k+1:])
		for _, c := range []string{"\x00", "\x01", "\x02", "\x7f", "\x80", "\xff"} {
			try(s[:k] + c + s[k:])
		}
		// A varint with a superfluous digit, and one that is too long.
		try(s[:k] + string([]byte{s[k] | 128}) + "\x00" + s[k+1:])
		try(s[:k] + strings.Repeat("\xff", 9) + s[k+1:])
	}
	if accepted < 2*len(s) || rejected < 200*len(s) {
		t.Error(accepted, "strings were read,", rejected, "were not")
	}
}

// P11.2: numbers that are not those of a valid program, where the bytes have another form than any program that Bytes takes.
func TestReadNumbers(t *testing.T) {
	head, tail := "\x01\x01P", "\x01\x01P\x00\x00\x00\x01\x04Main\x00\x00\x00\x00\x00\x00"
	if p, ok := core.Read(head + "\x01" + tail); !ok || !p.Types[0].Record {
		t.Error("a record is not read")
	}
	for _, flag := range []string{"\x00", "\x02", "\x03", "\x7f", "\x81\x01", "\x81\x00", "\x81\x80\x80\x80\x80\x80\x80\x80\x80\x01", ""} {
		want := flag == "\x00"
		if p, ok := core.Read(head + flag + tail); ok != want || ok && p.Types[0].Record {
			t.Errorf("the flag %q: %+v, %v", flag, p, ok)
		}
	}
	for _, count := range []int{2, 127, 128, 1 << 20, 1 << 40, 1<<63 - 1} {
		for _, s := range []string{code.Num(count), "\x00" + code.Num(count), "\x00\x00" + code.Num(count), "\x00\x00\x00" + code.Num(count)} {
			notRead(t, s)
			notRead(t, s+"\x04Main\x00\x00\x00\x00\x00\x00")
			notRead(t, s+strings.Repeat("\x00", 1000))
			notRead(t, s+strings.Repeat("\x01", 1000))
		}
	}
	number := func(n string) string {
		return "\x00\x00\x01\x00\x00\x03\x00\x00\x00\x03" + n + "\x00\x00\x00\x01\x04Main\x00\x00\x00\x00\x00\x00"
	}
	for n, want := range map[int]bool{0: true, -1: true, api.MaxNum: true, -api.MaxNum: true, api.MaxNum + 1: false, -api.MaxNum - 1: false, 1 << 60: false, -1 << 60: false} {
		if _, ok := core.Read(number(code.Int(n))); ok != want {
			t.Error("the integer", n, "is read:", ok)
		}
	}
	notRead(t, number(code.Num(1<<61+1)))
	notRead(t, number(code.Num(1<<63-1)))
}

// deepExprs are expressions of a function, each of which lies in one of the same form as often as the document allows.
func deepExprs() map[string]func(x api.Expr) api.Expr {
	with := func(op int, kids ...api.Expr) api.Expr { return api.Expr{Op: op, Kids: kids} }
	one, yes := expr("int1"), expr("bool1")
	return map[string]func(x api.Expr) api.Expr{
		"int neg":   func(x api.Expr) api.Expr { return with(api.XNeg, x) },
		"int add":   func(x api.Expr) api.Expr { return with(api.XAdd, one, x) },
		"int if":    func(x api.Expr) api.Expr { return with(api.XIf, yes, one, x) },
		"int call":  func(x api.Expr) api.Expr { return with(api.XCall, x) },
		"int let":   func(x api.Expr) api.Expr { return api.Expr{Op: api.XLet, N: 1, Kids: []api.Expr{x, one}} },
		"int match": func(x api.Expr) api.Expr { return with(api.XMatch, expr("ctor0'V'"), with(api.XArm, x)) },
		"bool not":  func(x api.Expr) api.Expr { return with(api.XNot, x) },
		"bool eq":   func(x api.Expr) api.Expr { return with(api.XEq, yes, x) },
		"text cat":  func(x api.Expr) api.Expr { return with(api.XCat, x, expr("text")) },
	}
}

// P1, P11.1, P11.2: programs that are nested as deep as the document allows, and bytes that are nested deeper.
func TestDeepPrograms(t *testing.T) {
	const depth = 65000
	whole := func(form string, x api.Expr) api.Prog {
		return api.Prog{Types: []api.Decl{{Name: "V", Ctors: []api.Ctor{{Name: "V"}}}}, Funs: []api.Fun{{Params: fields("a", "int"), Result: typ(form), Slots: 2, Body: x}}, Actors: []api.Actor{{Name: "Main"}}}
	}
	check := func(name string, p api.Prog) {
		s := core.Bytes(p)
		if q, ok := core.Read(s); !core.Right(p) || !ok || !core.Same(p, q) || core.Digest(p, "Main") == (api.Digest{}) {
			t.Errorf("%s: a deep program is not valid, or not read", name)
		}
	}
	for name, f := range deepExprs() {
		form, _, _ := strings.Cut(name, " ")
		x := expr(map[string]string{"int": "int1", "bool": "bool1", "text": "text"}[form])
		for range depth {
			x = f(x)
		}
		check(name, whole(form, x))
	}
	list, x := typ("int"), expr("int1")
	for range depth {
		list, x = api.Type{Kind: api.TyList, Args: []api.Type{list}}, api.Expr{Op: api.XList, Kids: []api.Expr{x}}
	}
	p := whole("int", expr("int1"))
	p.Funs[0].Result, p.Funs[0].Body = list, x
	check("lists", p)
	l := block("stop")
	for range depth {
		l = []api.Stmt{{Op: api.SIf, Xs: exprs("bool1"), Then: l}}
	}
	p = whole("int", expr("int1"))
	p.Actors[0].On = []api.Handler{{Msg: "Go", Body: l}}
	check("statements", p)
	for _, level := range []string{"\x13\x00\x00\x00\x01", "\x08\x00\x00\x00\x01"} {
		notRead(t, "\x00\x00\x01\x00\x00\x03\x00\x00\x00"+strings.Repeat(level, 5000000))
	}
	notRead(t, "\x00\x00\x01\x00\x00"+strings.Repeat("\x05\x00\x01", 5000000))
	notRead(t, "\x00\x00\x00\x01\x04Main\x00\x00\x00\x01\x01M\x00\x00\x01"+strings.Repeat("\x03\x00\x00\x00\x00\x00\x01", 5000000))
}
