package lex

import (
	"math"
	"math/rand"
	"regexp"
	"slices"
	"strconv"
	"strings"
	"testing"

	"retroact/api"
)

var marks = strings.Fields("( ) { } [ ] , . : ; ? _ = + - * / % < > == != <= >= ++ => :-")

const tooLarge = api.MaxNum + 1

func name(s string) api.Token { return api.Token{Kind: api.TName, Text: s} }

func integer(n int) api.Token { return api.Token{Kind: api.TInt, N: n} }

func text(s string) api.Token { return api.Token{Kind: api.TText, Text: s} }

func mark(s string) api.Token { return api.Token{Kind: api.TMark, Text: s} }

func at(offset int, x api.Token) api.Token {
	x.At = offset
	return x
}

func brief(s string) string {
	if len(s) <= 60 {
		return strconv.Quote(s)
	}
	return strconv.Quote(s[:30]) + "..." + strconv.Quote(s[len(s)-30:])
}

// scans checks that a source has exactly these tokens at these offsets.
func scans(t *testing.T, s string, want ...api.Token) {
	t.Helper()
	l, e, offset := Scan(s)
	if e != api.OK || offset != 0 {
		t.Errorf("Scan(%s): error %d at %d", brief(s), e, offset)
	} else if !slices.Equal(l, want) {
		t.Errorf("Scan(%s) = %+v; want %+v", brief(s), l, want)
	}
}

func fails(t *testing.T, s string, want api.Errno, offset int) {
	t.Helper()
	l, e, o := Scan(s)
	if e != want || o != offset || len(l) > 0 {
		t.Errorf("Scan(%s) = %d tokens, error %d at %d; want error %d at %d", brief(s), len(l), e, o, want, offset)
	}
}

func writes(t *testing.T, want string, l ...api.Token) {
	t.Helper()
	if got := Write(l); got != want {
		t.Errorf("Write(%.100v) = %s; want %s", l, brief(got), brief(want))
	}
}

// withoutOffsets returns the tokens with At 0.
func withoutOffsets(l []api.Token) []api.Token {
	l = slices.Clone(l)
	for k := range l {
		l[k].At = 0
	}
	return l
}

// The forms of the chapter, as patterns, apart from the code under test.
var (
	spaceForm = regexp.MustCompile(`^([\t\n\r ]|//[^\n]*)*`)
	nameForm  = regexp.MustCompile(`^[A-Za-z][A-Za-z0-9_]*`)
	digitForm = regexp.MustCompile(`^[0-9]+`)
	wordForm  = regexp.MustCompile(`^[0-9A-Za-z_]+`)
	textForm  = regexp.MustCompile(`^"((?:\\[nt"\\]|[^\n"\\])*)"`)
	markForm  = regexp.MustCompile(`^(==|!=|<=|>=|\+\+|=>|:-|[][(){},.:;?_=+*/%<>-])`)
)

// modelToken returns the token that s starts with, and the length of its form.
func modelToken(s string) (x api.Token, size int, e api.Errno) {
	if f := nameForm.FindString(s); f != "" {
		return name(f), len(f), api.OK
	}
	if f := digitForm.FindString(s); f != "" {
		if f != wordForm.FindString(s) || len(f) > 1 && f[0] == '0' {
			return x, 0, api.ErrForm
		}
		n, err := strconv.ParseUint(f, 10, 64)
		if err != nil || n > api.MaxNum {
			return x, 0, api.ErrRange
		}
		return integer(int(n)), len(f), api.OK
	}
	if f := textForm.FindStringSubmatch(s); f != nil {
		denoted := strings.NewReplacer(`\n`, "\n", `\t`, "\t", `\"`, "\"", `\\`, "\\").Replace(f[1])
		if len(denoted) > api.MaxText {
			return x, 0, api.ErrSize
		}
		return text(denoted), len(f[0]), api.OK
	}
	if f := markForm.FindString(s); f != "" {
		return mark(f), len(f), api.OK
	}
	return x, 0, api.ErrForm
}

// modelScan is Scan by the definitions of the chapter.
func modelScan(s string) (l []api.Token, e api.Errno, offset int) {
	if len(s) > api.MaxSource {
		return nil, api.ErrSize, 0
	}
	for offset = len(spaceForm.FindString(s)); offset < len(s); offset += len(spaceForm.FindString(s[offset:])) {
		x, size, e := modelToken(s[offset:])
		if e != api.OK {
			return nil, e, offset
		}
		l = append(l, at(offset, x))
		offset += size
	}
	return l, api.OK, 0
}

// agrees holds Scan against the definitions, and Write against Scan.
func agrees(t *testing.T, s string) {
	t.Helper()
	l, e, offset := Scan(s)
	want, wantE, wantOffset := modelScan(s)
	if e != wantE || offset != wantOffset || !slices.Equal(l, want) {
		t.Fatalf("Scan(%s) = %+v, %d, %d; want %+v, %d, %d", brief(s), l, e, offset, want, wantE, wantOffset)
	}
	if written := Write(l); len(written) <= api.MaxSource {
		back, e, _ := Scan(written)
		if e != api.OK || !slices.Equal(withoutOffsets(back), withoutOffsets(l)) {
			t.Fatalf("Scan(Write(Scan(%s))) = %+v, %d; Write is %s", brief(s), back, e, brief(written))
		}
	}
}

// P7.1: sources without a token.
func TestNoTokens(t *testing.T) {
	for _, s := range []string{
		"", " ", "\t", "\n", "\r", " \t\r\n \n", "//", "// c", "// c\n", "//\n", "//\n//\n", "////", "// // c", " // c\r\n\t// d",
		"// \x00\x1f\x7f\xff\r\v\" ! & \\ 00 1a \"", "//\xc3\xa4\n//",
	} {
		scans(t, s)
	}
}

// P7.1: the four bytes of white space, and no other, between two tokens.
func TestSpaces(t *testing.T) {
	for k := range 256 {
		s := "a" + string([]byte{byte(k)}) + "b"
		switch k {
		case 9, 10, 13, 32:
			scans(t, s, name("a"), at(2, name("b")))
		default:
			if l, e, _ := Scan(s); e == api.OK && len(l) == 2 {
				t.Errorf("byte %d separates tokens", k)
			}
			agrees(t, s)
		}
	}
}

// P7.1: comments between tokens, right behind a token, and beside division signs.
func TestComments(t *testing.T) {
	a, b := name("a"), name("b")
	scans(t, "a // c\nb", a, at(7, b))
	scans(t, "a//c\nb", a, at(5, b))
	scans(t, "a//c b", a)
	scans(t, "a//c\rb", a)
	scans(t, "a//c\n//d\n\n b//", a, at(11, b))
	scans(t, "1//\n2", integer(1), at(4, integer(2)))
	scans(t, `"a"//"b"`, text("a"))
	scans(t, `"a//b"`, text("a//b"))
	scans(t, "\"a\"//\"\n\"//b\"", text("a"), at(7, text("//b")))
	scans(t, "=//=\n=", mark("="), at(5, mark("=")))
	scans(t, "=//\n=>", mark("="), at(4, mark("=>")))
	scans(t, "a/b", a, at(1, mark("/")), at(2, b))
	scans(t, "a / / b", a, at(2, mark("/")), at(4, mark("/")), at(6, b))
	scans(t, "a / // c\nb", a, at(2, mark("/")), at(9, b))
	scans(t, "a /// c\nb", a, at(8, b))
	scans(t, "a// /\n/b", a, at(6, mark("/")), at(7, b))
	scans(t, "a//\n/ /b", a, at(4, mark("/")), at(6, mark("/")), at(7, b))
	scans(t, "/", mark("/"))
	scans(t, "/\n/", mark("/"), at(2, mark("/")))
	scans(t, "*/", mark("*"), at(1, mark("/")))
	scans(t, "/*", mark("/"), at(1, mark("*")))
}

// P7.1: every mark alone and between others, at its offset.
func TestMarks(t *testing.T) {
	if len(marks) != 27 {
		t.Fatal(len(marks), "marks")
	}
	for _, m := range marks {
		scans(t, m, mark(m))
		scans(t, " \n"+m+" ", at(2, mark(m)))
		scans(t, "("+m+")", mark("("), at(1, mark(m)), at(1+len(m), mark(")")))
		for _, n := range marks {
			scans(t, m+" "+n, mark(m), at(len(m)+1, mark(n)))
		}
	}
}

// longestFirst splits a string of marks from the left, as the definition has it, and reports false if no mark begins somewhere.
func longestFirst(s string) ([]api.Token, bool) {
	var l []api.Token
	for offset := 0; offset < len(s); {
		longest := ""
		for _, m := range marks {
			if len(m) > len(longest) && strings.HasPrefix(s[offset:], m) {
				longest = m
			}
		}
		if longest == "" {
			return nil, false
		}
		l = append(l, at(offset, mark(longest)))
		offset += len(longest)
	}
	return l, true
}

// P7.1: every two and three marks without a space between them: the longest mark first.
func TestAdjacentMarks(t *testing.T) {
	check := func(s string) {
		t.Helper()
		if strings.Contains(s, "//") {
			agrees(t, s)
		} else if l, ok := longestFirst(s); ok {
			scans(t, s, l...)
		} else {
			agrees(t, s)
		}
	}
	for _, a := range marks {
		for _, b := range marks {
			check(a + b)
			for _, c := range marks {
				check(a + b + c)
			}
		}
	}
	for s, want := range map[string]string{
		"<=": "<=", "==": "==", "!=": "!=", "++": "++", "=>": "=>", ":-": ":-", ">=": ">=",
		"<==": "<= =", "===": "== =", "====": "== ==", "==>": "== >", "===>": "== =>", "=>=": "=> =", "=>>": "=> >", "=<=": "= <=",
		"<=>": "<= >", "!==": "!= =", "!=>": "!= >", "!=!=": "!= !=", "+++": "++ +", "++++": "++ ++", "+-+": "+ - +",
		"::-": ": :-", ":-:": ":- :", ":--": ":- -", "-:": "- :", "><": "> <", "<>": "< >", "=:-": "= :-", "__": "_ _", "-->": "- - >",
	} {
		var l []api.Token
		offset := 0
		for _, m := range strings.Fields(want) {
			l = append(l, at(offset, mark(m)))
			offset += len(m)
		}
		scans(t, s, l...)
	}
}

// P7.1: names, and the mark _ before, within and behind them.
func TestNames(t *testing.T) {
	for _, s := range []string{"a", "z", "A", "Z", "a1", "a_", "a_b", "a__", "x_1_Y2", "aZ09_", "record", "Main", "e5", "n0_0", strings.Repeat("k", 5000)} {
		scans(t, s, name(s))
		scans(t, s+"/"+s, name(s), at(len(s), mark("/")), at(len(s)+1, name(s)))
	}
	for k := range 256 {
		s := string([]byte{'n', byte(k)})
		if l, e, _ := Scan(s); (e == api.OK && len(l) == 1 && l[0].Text == s) != wordForm.MatchString(s[1:]) {
			t.Errorf("%q: %+v, %d", s, l, e)
		}
		agrees(t, s)
		agrees(t, s[1:])
	}
	scans(t, "_a", mark("_"), at(1, name("a")))
	scans(t, "_1", mark("_"), at(1, integer(1)))
	scans(t, "_0", mark("_"), at(1, integer(0)))
	scans(t, "__a_", mark("_"), at(1, mark("_")), at(2, name("a_")))
	scans(t, "_", mark("_"))
	scans(t, "a_ _b", name("a_"), at(3, mark("_")), at(4, name("b")))
	scans(t, "a-b.c", name("a"), at(1, mark("-")), at(2, name("b")), at(3, mark(".")), at(4, name("c")))
	fails(t, "_1a", api.ErrForm, 1)
	fails(t, "_01", api.ErrForm, 1)
}

// P7.1: integers, up to the bound.
func TestIntegers(t *testing.T) {
	for _, n := range []int{0, 1, 9, 10, 12, 100, 909, 1 << 20, 1234567890, math.MaxInt32, 1 << 52, api.MaxNum - 1, api.MaxNum} {
		scans(t, strconv.Itoa(n), integer(n))
		scans(t, "-"+strconv.Itoa(n)+")", mark("-"), at(1, integer(n)), at(1+len(strconv.Itoa(n)), mark(")")))
	}
	scans(t, "9007199254740992", integer(api.MaxNum))
	scans(t, "0", integer(0))
	scans(t, "1.5", integer(1), at(1, mark(".")), at(2, integer(5)))
	scans(t, "1-1", integer(1), at(1, mark("-")), at(2, integer(1)))
	scans(t, "0 0", integer(0), at(2, integer(0)))
	scans(t, "1\"\"", integer(1), at(1, text("")))
}

// P7.2: integers that are none, or too large.
func TestWrongIntegers(t *testing.T) {
	for _, s := range []string{
		"00", "01", "007", "0000", "00000000000000000000000", "09007199254740993", "1a", "1Z", "0a", "0x1", "1e3", "12ab", "1_", "0_", "1_000", "9_9", "00a", "01_",
		"9007199254740993a", "99999999999999999999a", "99999999999999999999_", "0" + strings.Repeat("9", 400), strings.Repeat("9", 400) + "z",
	} {
		fails(t, s, api.ErrForm, 0)
		fails(t, "a "+s+" !", api.ErrForm, 2)
		fails(t, "\n// 0\n-"+s, api.ErrForm, 7)
	}
	for _, s := range []string{
		strconv.Itoa(tooLarge), "9007199254740993", "9007199254741000", "10000000000000000", "9223372036854775807", "9223372036854775808",
		"18446744073709551615", "18446744073709551616", "18446744073709551617", "99999999999999999999", strings.Repeat("1", 400), "1" + strings.Repeat("0", api.MaxSource-10),
	} {
		fails(t, s, api.ErrRange, 0)
		fails(t, "a "+s+" !", api.ErrRange, 2)
		fails(t, "-"+s, api.ErrRange, 1)
	}
}

// P7.1: string literals with each escape and each byte.
func TestTexts(t *testing.T) {
	scans(t, `""`, text(""))
	scans(t, `"a b"`, text("a b"))
	scans(t, `"\n\t\"\\"`, text("\n\t\"\\"))
	scans(t, `"\\n"`, text(`\n`))
	scans(t, `"\\\n"`, text("\\\n"))
	scans(t, `"\""`, text(`"`))
	scans(t, `"\\"`, text(`\`))
	scans(t, `"""a"`, text(""), at(2, text("a")))
	scans(t, `""""`, text(""), at(2, text("")))
	scans(t, `"a"b"c"`, text("a"), at(3, name("b")), at(4, text("c")))
	scans(t, `"a"1`, text("a"), at(3, integer(1)))
	scans(t, "\"\xc3\xa4\xff\"", text("\xc3\xa4\xff"))
	for k := range 256 {
		c := string([]byte{byte(k)})
		if c == "\n" || c == "\"" || c == "\\" {
			continue
		}
		scans(t, "\""+c+"\"", text(c))
		scans(t, "x\"a"+c+"b\";", name("x"), at(1, text("a"+c+"b")), at(6, mark(";")))
	}
}

// P7.2: string literals with another escape, or that are not closed on their line.
func TestWrongTexts(t *testing.T) {
	for k := range 256 {
		c := string([]byte{byte(k)})
		if strings.Contains("nt\"\\", c) {
			continue
		}
		fails(t, "\"\\"+c+"\"", api.ErrForm, 0)
		fails(t, "a \"b\\"+c+"\" !", api.ErrForm, 2)
	}
	for _, s := range []string{
		`"`, `"a`, `"a\"`, `"\\\"`, `"\`, `"\n`, `"a\`, "\"\n\"", "\"a\nb\"", "\"\\\n\"", "\"a//\n\"", `"//`, `"\n\`,
		`"` + strings.Repeat("a", api.MaxText), `"` + strings.Repeat("a", api.MaxText+1), `"` + strings.Repeat("a", api.MaxText+1) + "\n\"", `"` + strings.Repeat("a", api.MaxText+1) + `\q"`,
	} {
		fails(t, s, api.ErrForm, 0)
		fails(t, "a "+s, api.ErrForm, 2)
		fails(t, "\"\" // \"\n"+s, api.ErrForm, 8)
	}
	fails(t, `"a""`, api.ErrForm, 3)
	fails(t, `"""`, api.ErrForm, 2)
}

// P7.2: the bound of a string literal counts the bytes that it denotes.
func TestLongTexts(t *testing.T) {
	for _, unit := range []struct{ form, denoted string }{{"a", "a"}, {`\n`, "\n"}, {`\t`, "\t"}, {`\"`, "\""}, {`\\`, "\\"}, {"\x00", "\x00"}, {"\xff", "\xff"}, {"\r", "\r"}} {
		full := strings.Repeat(unit.form, api.MaxText)
		scans(t, "\""+full+"\"", text(strings.Repeat(unit.denoted, api.MaxText)))
		scans(t, "a\""+full+"\"b", name("a"), at(1, text(strings.Repeat(unit.denoted, api.MaxText))), at(len(full)+3, name("b")))
		fails(t, "\""+full+"a\"", api.ErrSize, 0)
		fails(t, "a \""+full+unit.form+"\"", api.ErrSize, 2)
		fails(t, "a \""+full+unit.form+"\" !", api.ErrSize, 2)
	}
	// The two bytes of an escape are one that is denoted, and a literal of 4096 escapes is not too long.
	scans(t, `"`+strings.Repeat("a", api.MaxText-1)+`\n"`, text(strings.Repeat("a", api.MaxText-1)+"\n"))
	fails(t, `"`+strings.Repeat("a", api.MaxText)+`\n"`, api.ErrSize, 0)
	fails(t, `"`+strings.Repeat("a", api.MaxSource-2)+`"`, api.ErrSize, 0)
}

// P7.2: the bound of a source, whatever it contains.
func TestLongSources(t *testing.T) {
	for _, s := range []string{" ", "\n", "a", "(", "!", "\"", "1", "0", "//", "\xff", "a ", "\"a\""} {
		full := strings.Repeat(s, api.MaxSource)[:api.MaxSource]
		agrees(t, full)
		fails(t, full+" ", api.ErrSize, 0)
		fails(t, full+"!", api.ErrSize, 0)
		fails(t, full+full, api.ErrSize, 0)
	}
	scans(t, strings.Repeat(" ", 32768))
	fails(t, strings.Repeat(" ", 32769), api.ErrSize, 0)
	scans(t, "//"+strings.Repeat("!", 32766))
	fails(t, "//"+strings.Repeat("!", 32767), api.ErrSize, 0)
	scans(t, strings.Repeat("a", 32768), name(strings.Repeat("a", 32768)))
	fails(t, strings.Repeat("a", 32769), api.ErrSize, 0)
	scans(t, strings.Repeat(" ", 32767)+"a", at(32767, name("a")))
	fails(t, strings.Repeat(" ", 32767)+"!", api.ErrForm, 32767)
	if l, e, _ := Scan(strings.Repeat("(", 32768)); e != api.OK || len(l) != 32768 {
		t.Error(len(l), e)
	}
}

// P7.2: bytes that begin no token.
func TestWrongBytes(t *testing.T) {
	for k := range 256 {
		c := string([]byte{byte(k)})
		if strings.Contains("\t\n\r \"()*+,-./:;<=>?[]_{}%", c) || wordForm.MatchString(c) {
			continue
		}
		fails(t, c, api.ErrForm, 0)
		fails(t, "a "+c, api.ErrForm, 2)
		fails(t, "a"+c+"b", api.ErrForm, 1)
		fails(t, "1"+c, api.ErrForm, 1)
		fails(t, " // \xff\n("+c+")", api.ErrForm, 7)
	}
	fails(t, "!", api.ErrForm, 0)
	fails(t, "&", api.ErrForm, 0)
	fails(t, "a ! = b", api.ErrForm, 2)
	fails(t, "a && b", api.ErrForm, 2)
	fails(t, "=!", api.ErrForm, 1)
	fails(t, "!//=", api.ErrForm, 0)
	fails(t, "!!=", api.ErrForm, 0)
	fails(t, "!=!", api.ErrForm, 2)
	fails(t, "\xc3\xa4", api.ErrForm, 0)
	fails(t, "a\xc3\xa4", api.ErrForm, 1)
	fails(t, "\xef\xbb\xbfa", api.ErrForm, 0)
	fails(t, "a\u00a0b", api.ErrForm, 1)
	fails(t, "\u0661", api.ErrForm, 0)
	fails(t, "'a'", api.ErrForm, 0)
	fails(t, "# c", api.ErrForm, 0)
}

// P7.2: of several errors, the first from the left counts, except that a source that is too long is always reported as such.
func TestFirstError(t *testing.T) {
	wrong := []struct {
		s string
		e api.Errno
	}{
		{"01", api.ErrForm}, {"1a", api.ErrForm}, {"9007199254740993", api.ErrRange}, {`"\q"`, api.ErrForm}, {"\"b\n", api.ErrForm},
		{`"` + strings.Repeat("c", api.MaxText+1) + `"`, api.ErrSize}, {"!", api.ErrForm}, {"&", api.ErrForm}, {"\x80", api.ErrForm},
	}
	for _, x := range wrong {
		fails(t, x.s, x.e, 0)
		for _, y := range wrong {
			fails(t, x.s+" "+y.s, x.e, 0)
			fails(t, "//!\n( "+x.s+" ) "+y.s+" 12", x.e, 6)
		}
		fails(t, x.s+strings.Repeat(" ", api.MaxSource), api.ErrSize, 0)
		fails(t, strings.Repeat(" ", api.MaxSource)+x.s, api.ErrSize, 0)
	}
}

// P7.1: the offsets of tokens behind comments and line feeds, the example of the chapter, and a source by hand.
func TestOffsets(t *testing.T) {
	scans(t, "a <= 12 // c", name("a"), at(2, mark("<=")), at(5, integer(12)))
	scans(t, "\n\r\n\ta// \"x\n// y\n\n  \"\\n\\\"\"=>_ //\n7",
		at(4, name("a")), at(19, text("\n\"")), at(25, mark("=>")), at(27, mark("_")), at(32, integer(7)))
	scans(t, "fun f(x: int): int = x + 1",
		name("fun"), at(4, name("f")), at(5, mark("(")), at(6, name("x")), at(7, mark(":")), at(9, name("int")), at(12, mark(")")),
		at(13, mark(":")), at(15, name("int")), at(19, mark("=")), at(21, name("x")), at(23, mark("+")), at(25, integer(1)))
	scans(t, "p(X):-q(X),X!=0?", name("p"), at(1, mark("(")), at(2, name("X")), at(3, mark(")")), at(4, mark(":-")), at(6, name("q")),
		at(7, mark("(")), at(8, name("X")), at(9, mark(")")), at(10, mark(",")), at(11, name("X")), at(12, mark("!=")), at(14, integer(0)), at(15, mark("?")))
}

// P7.1, P7.2, P7.5: every short source out of the bytes that matter, held against the definitions.
func TestShortSources(t *testing.T) {
	check := func(alphabet string, most int) {
		sources := []string{""}
		for k := 0; k < len(sources); k++ {
			agrees(t, sources[k])
			if len(sources[k]) < most {
				for i := range len(alphabet) {
					sources = append(sources, sources[k]+alphabet[i:i+1])
				}
			}
		}
	}
	check("aZ019_ \n\t/\"\\n=<!+:->(&\x00\xff", 3)
	check("n01_ \n/\"\\=!", 5)
}

// parts are pieces of sources, some of which are wrong, or are wrong beside certain others.
func parts() []string {
	l := []string{
		" ", "\n", "\t", "\r", "//", "// c\n", "//\n", "a", "Bc", "x_1", "0", "7", "12", "9007199254740992", `""`, `"a b"`, `"\n\t\"\\"`, "\"\x00\xff\"", `"//"`,
		"\"", "\\", `\n`, "01", "9007199254740993", "!", "&", "\x7f", "\xc3\xa4",
	}
	return append(append(l, marks...), marks...)
}

// P7.1, P7.2, P7.5: long arbitrary sources, held against the definitions.
func TestArbitrarySources(t *testing.T) {
	g := rand.New(rand.NewSource(7))
	good := slices.DeleteFunc(parts(), func(s string) bool {
		_, e, _ := modelScan(s)
		return e != api.OK
	})
	for range 20000 {
		from, sep := good, " "
		if g.Intn(3) == 0 {
			from = parts()
		}
		if g.Intn(2) == 0 {
			sep = ""
		}
		var s strings.Builder
		for range g.Intn(30) {
			s.WriteString(from[g.Intn(len(from))] + sep)
		}
		agrees(t, s.String())
	}
	for range 20000 {
		b := make([]byte, g.Intn(12))
		for k := range b {
			b[k] = byte(g.Intn(256))
		}
		agrees(t, string(b))
	}
}

// P7.3: each kind of token, alone and in lists.
func TestWrite(t *testing.T) {
	writes(t, "")
	writes(t, "", []api.Token{}...)
	writes(t, "a", name("a"))
	writes(t, "Zz_09", name("Zz_09"))
	writes(t, "0", integer(0))
	writes(t, "12", integer(12))
	writes(t, "9007199254740992", integer(api.MaxNum))
	writes(t, `""`, text(""))
	writes(t, `"a b"`, text("a b"))
	writes(t, `"\n\t\"\\"`, text("\n\t\"\\"))
	writes(t, `"\\n//\\\\"`, text(`\n//\\`))
	writes(t, "\"\r\x00\x1f\x7f\xff\xc3\xa4'\"", text("\r\x00\x1f\x7f\xff\xc3\xa4'"))
	writes(t, `a 12 "x" =>`, name("a"), integer(12), text("x"), mark("=>"))
	writes(t, "/ / = = a b 1 2", mark("/"), mark("/"), mark("="), mark("="), name("a"), name("b"), integer(1), integer(2))
	for _, m := range marks {
		writes(t, m, mark(m))
		writes(t, m+" "+m, mark(m), mark(m))
	}
	for k := range 256 {
		c := string([]byte{byte(k)})
		want := c
		if n := strings.Index("\n\t\"\\", c); n >= 0 {
			want = `\` + `nt"\`[n:n+1]
		}
		writes(t, `"`+want+`"`, text(c))
		writes(t, `( "a`+want+`" )`, mark("("), text("a"+c), mark(")"))
	}
	long := strings.Repeat("n", 2*api.MaxSource)
	writes(t, long, name(long))
	writes(t, `"`+long[:api.MaxText]+`"`, text(long[:api.MaxText]))
	writes(t, `"`+strings.Repeat(`\n`, api.MaxText)+`"`, text(strings.Repeat("\n", api.MaxText)))
}

// P7.3: offsets are ignored, whatever they are.
func TestWriteIgnoresOffsets(t *testing.T) {
	for _, n := range []int{0, 1, -1, 99, api.MaxSource + 1, math.MinInt, math.MaxInt} {
		writes(t, `a 1 "" _`, at(n, name("a")), at(-n, integer(1)), at(n+1, text("")), at(n, mark("_")))
	}
}

// P7.3: each invalid token, alone and among valid ones.
func TestWriteInvalid(t *testing.T) {
	var l []api.Token
	for _, s := range []string{"", "1", "1a", "_", "_a", "a-", "a ", " a", "a b", "a\n", "a\x00", "a//", "\"a\"", "a\xc3\xa4", "\xc3\xa4", "+", "@a", "[a", "`a", "{a", "a/", "a:", "a@", "a[", "a`", "a{", "a."} {
		l = append(l, name(s))
	}
	for _, n := range []int{-1, -12, tooLarge, -api.MaxNum, math.MinInt, math.MaxInt} {
		l = append(l, integer(n))
	}
	for _, s := range []string{"", "!", "&", "//", "((", "= ", " =", "= =", "===", "=!", ">=>", "-:", "a", "1", "\"", "\\", "&&", "||", "<>", "--", "**", "__", "\x00", "\xff", "=\x00", "\n", " ", "\"\"", "// c"} {
		l = append(l, mark(s))
	}
	for _, n := range []int{1, -1, math.MinInt, math.MaxInt} {
		l = append(l, api.Token{Kind: api.TName, Text: "a", N: n}, api.Token{Kind: api.TText, Text: "a", N: n}, api.Token{Kind: api.TText, N: n}, api.Token{Kind: api.TMark, Text: "=", N: n})
	}
	for _, s := range []string{"1", "0", "a", " ", "\x00"} {
		l = append(l, api.Token{Kind: api.TInt, Text: s}, api.Token{Kind: api.TInt, Text: s, N: 1})
	}
	for _, k := range []int{0, 5, 6, -1, math.MinInt, math.MaxInt, 256 + api.TName, 1<<32 + api.TMark} {
		l = append(l, api.Token{Kind: k}, api.Token{Kind: k, Text: "a"}, api.Token{Kind: k, N: 1}, api.Token{Kind: k, Text: "="})
	}
	l = append(l, text(strings.Repeat("a", api.MaxText+1)), text(strings.Repeat("\n", api.MaxText+1)), text(strings.Repeat("a", api.MaxSource)))
	for _, x := range l {
		writes(t, "", x)
		writes(t, "", x, name("a"))
		writes(t, "", name("a"), x)
		writes(t, "", mark("("), at(7, integer(12)), x, text("b"), mark(")"))
		writes(t, "", x, x)
	}
}

// sample is a list with a token of each kind in several forms.
func sample() []api.Token {
	l := []api.Token{name("a"), name("Main_2"), integer(0), integer(31), integer(api.MaxNum), text(""), text("x y"), text("\n\t\"\\"), text("//"), text("\x00\r\xff")}
	for _, m := range marks {
		l = append(l, mark(m))
	}
	return l
}

// P7.5: every two and three tokens come back from what Write makes of them.
func TestScanInvertsWrite(t *testing.T) {
	back := func(l ...api.Token) {
		t.Helper()
		s := Write(l)
		got, e, _ := Scan(s)
		if e != api.OK || !slices.Equal(withoutOffsets(got), withoutOffsets(l)) {
			t.Errorf("Scan(Write(%.100v)) = %.100v, %d", l, got, e)
		}
		if len(l) > 0 && Write(got) != s {
			t.Errorf("Write(Scan(%s)) = %s", brief(s), brief(Write(got)))
		}
	}
	back()
	for _, a := range sample() {
		back(a)
		for _, b := range sample() {
			back(a, b)
			for _, c := range sample() {
				back(a, b, c)
			}
		}
	}
	back(sample()...)
	back(name(strings.Repeat("a", api.MaxSource)))
	back(slices.Repeat([]api.Token{text(strings.Repeat("\n", api.MaxText))}, 3)...)
	back(append(slices.Repeat([]api.Token{mark("_")}, api.MaxSource/2-1), mark(":-"))...)
	// One byte more is too long for Scan, but not for Write.
	long := Write(append(slices.Repeat([]api.Token{mark("_")}, api.MaxSource/2), mark("_")))
	if len(long) != api.MaxSource+1 {
		t.Error(len(long))
	}
	fails(t, long, api.ErrSize, 0)
}

// P7.5: additional white space, and comments behind white space, between tokens change nothing but offsets.
func TestSpaceBetweenTokens(t *testing.T) {
	spaces := []string{" ", "\t", "\r", "\n", "  ", "\r\n", " \t\n\r ", " //\n", "\n// c\n", "\t//\"\n\r", " // a\n// b\n", " //// 01 !\n", "\n//\\\n\n"}
	var forms []string
	for _, x := range sample() {
		forms = append(forms, Write([]api.Token{x}))
	}
	sources := append(strings.Split("a<=12 b:-c \"x\"/1", " "), forms...)
	for _, a := range sources {
		for _, b := range sources {
			plain, e, _ := Scan(a + " " + b)
			if e != api.OK {
				t.Fatal(a, b, e)
			}
			for _, s := range spaces {
				got, e, _ := Scan(s + a + s + b + s)
				if e != api.OK || !slices.Equal(withoutOffsets(got), withoutOffsets(plain)) {
					t.Errorf("%q between %q and %q: %v, %d", s, a, b, got, e)
				}
			}
		}
	}
	for _, s := range spaces {
		l, e, _ := Scan(strings.Join(forms, s))
		if e != api.OK || !slices.Equal(withoutOffsets(l), sample()) {
			t.Errorf("%q: %v, %d", s, l, e)
		}
		for _, x := range l {
			if k := strings.Join(forms, s)[x.At:]; !strings.HasPrefix(k, Write([]api.Token{x})) {
				t.Errorf("%q: the offset of %v", s, x)
			}
		}
	}
}

// P7.4: Write leaves its argument as it was, elements beyond its length included, and reads none of those.
func TestWriteLeavesArguments(t *testing.T) {
	l := append(sample(), api.Token{Kind: 9, Text: "!", N: -1}, name("beyond"))
	before := slices.Clone(l)
	n := len(l) - 2
	want := Write(slices.Clone(l[:n]))
	if got := Write(l[:n]); got != want || got == "" {
		t.Errorf("%q; want %q", got, want)
	}
	if Write(l) != "" || !slices.Equal(l, before) {
		t.Error("the argument has changed:", l)
	}
	for k := range l {
		l[k] = name("other")
	}
	if again := Write(before[:n]); again != want {
		t.Errorf("%q; want %q", again, want)
	}
}

// P7.4: what is done to one result is seen in no other.
func TestResultsShareNothing(t *testing.T) {
	s := `a "b\n" 12 =>`
	first, _, _ := Scan(s)
	second, _, _ := Scan(s)
	want := slices.Clone(second)
	for k := range first {
		first[k] = api.Token{Kind: 9, Text: "!", N: -1, At: -1}
	}
	_ = append(first, name("behind"))
	if !slices.Equal(second, want) {
		t.Error("a result has changed:", second)
	}
	scans(t, s, want...)
	if s != `a "b\n" 12 =>` {
		t.Error("the argument has changed")
	}
}
