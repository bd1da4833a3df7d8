package num

import (
	"math"
	"math/big"
	"strings"
	"testing"

	"retroact/api"
)

// samples are ordinary integers, the bounds of the range and of int with their neighbours, and integers whose products lie at the bounds.
func samples() []int {
	near := []int{0, 10, 1000, 1 << 26, 1 << 27, 94906265, 1 << 31, 1 << 40, api.MaxNum / 3, api.MaxNum / 2, api.MaxNum, math.MaxInt - 2}
	var l []int
	for _, n := range near {
		for d := -2; d <= 2; d++ {
			l = append(l, n+d, -n-d)
		}
	}
	return append(l, math.MinInt, math.MinInt+1)
}

func samplesInRange() []int {
	var l []int
	for _, n := range samples() {
		if -api.MaxNum <= n && n <= api.MaxNum {
			l = append(l, n)
		}
	}
	return l
}

func within(n *big.Int) bool {
	return n.CmpAbs(big.NewInt(api.MaxNum)) <= 0
}

type binary struct {
	name  string
	op    func(a, b int) (int, bool)
	exact func(a, b *big.Int) *big.Int
}

// compare holds an operation against exact arithmetic, for all pairs of samples.
func compare(t *testing.T, x binary, undefined func(a, b int) bool) {
	t.Helper()
	for _, a := range samples() {
		for _, b := range samples() {
			p, q := big.NewInt(int64(a)), big.NewInt(int64(b))
			want, ok := 0, false
			if within(p) && within(q) && !undefined(a, b) {
				if r := x.exact(p, q); within(r) {
					want, ok = int(r.Int64()), true
				}
			}
			if got, good := x.op(a, b); got != want || good != ok {
				t.Errorf("%s(%d, %d) = %d, %t; want %d, %t", x.name, a, b, got, good, want, ok)
			}
		}
	}
}

// P1.1: sums, differences and products of ordinary, extreme and out-of-range operands.
func TestSumsDifferencesAndProducts(t *testing.T) {
	never := func(a, b int) bool { return false }
	compare(t, binary{"Add", Add, func(a, b *big.Int) *big.Int { return new(big.Int).Add(a, b) }}, never)
	compare(t, binary{"Sub", Sub, func(a, b *big.Int) *big.Int { return new(big.Int).Sub(a, b) }}, never)
	compare(t, binary{"Mul", Mul, func(a, b *big.Int) *big.Int { return new(big.Int).Mul(a, b) }}, never)
}

type row struct {
	op   func(a, b int) (int, bool)
	a, b int
	want int
	ok   bool
}

func checkRows(t *testing.T, rows []row) {
	t.Helper()
	for k, x := range rows {
		if got, ok := x.op(x.a, x.b); got != x.want || ok != x.ok {
			t.Errorf("row %d (%d, %d): %d, %t; want %d, %t", k, x.a, x.b, got, ok, x.want, x.ok)
		}
	}
}

// P1.1: the bounds of the range, spelt out.
func TestBounds(t *testing.T) {
	const m = api.MaxNum
	if m != 9007199254740992 {
		t.Fatal("MaxNum", m)
	}
	checkRows(t, []row{
		{Add, m - 1, 1, m, true},
		{Add, m, 1, 0, false},
		{Add, 1 - m, -1, -m, true},
		{Add, -m, -1, 0, false},
		{Add, m + 1, -1, 0, false},
		{Add, -1, m + 1, 0, false},
		{Add, math.MaxInt, math.MinInt, 0, false},
		{Sub, 1 - m, 1, -m, true},
		{Sub, -m, 1, 0, false},
		{Sub, m + 1, 1, 0, false},
		{Sub, m + 1, m + 1, 0, false},
		{Sub, 1, m + 1, 0, false},
		{Mul, m, -1, -m, true},
		{Mul, m / 2, 2, m, true},
		{Mul, -m / 2, -2, m, true},
		{Mul, m/2 + 1, 2, 0, false},
		{Mul, 1 << 32, 1 << 32, 0, false}, // the product wraps around to 0
		{Mul, 1 << 40, 1 << 20, 0, false},
		{Mul, 0, m + 1, 0, false},
		{Mul, m + 1, 0, 0, false},
		{Mul, 0, -m, 0, true},
	})
}

// P1.1: Neg.
func TestNegation(t *testing.T) {
	for _, a := range samples() {
		want, ok := 0, false
		if within(big.NewInt(int64(a))) {
			want, ok = -a, true
		}
		if got, good := Neg(a); got != want || good != ok {
			t.Errorf("Neg(%d) = %d, %t; want %d, %t", a, got, good, want, ok)
		}
	}
	if n, ok := Neg(math.MinInt); n != 0 || ok {
		t.Error("the least int, whose negation is itself:", n, ok)
	}
}

// P1.2: quotients and remainders, also for the divisor 0 and for operands out of range.
func TestQuotientsAndRemainders(t *testing.T) {
	zero := func(a, b int) bool { return b == 0 }
	compare(t, binary{"Div", Div, func(a, b *big.Int) *big.Int { return new(big.Int).Quo(a, b) }}, zero)
	compare(t, binary{"Mod", Mod, func(a, b *big.Int) *big.Int { return new(big.Int).Rem(a, b) }}, zero)
}

// P1.2: the signs, the divisor 0 and the bounds, spelt out.
func TestSigns(t *testing.T) {
	const m = api.MaxNum
	checkRows(t, []row{
		{Div, 7, 2, 3, true}, {Div, -7, 2, -3, true}, {Div, 7, -2, -3, true}, {Div, -7, -2, 3, true},
		{Mod, 7, 2, 1, true}, {Mod, -7, 2, -1, true}, {Mod, 7, -2, 1, true}, {Mod, -7, -2, -1, true},
		{Mod, -6, 3, 0, true}, {Mod, 6, -3, 0, true}, {Mod, 2, 7, 2, true}, {Mod, -2, 7, -2, true},
		{Div, 5, 0, 0, false}, {Mod, 5, 0, 0, false}, {Div, 0, 0, 0, false}, {Mod, 0, 0, 0, false},
		{Div, m, -1, -m, true}, {Div, -m, -1, m, true}, {Div, -m, m, -1, true}, {Mod, -m, m, 0, true},
		{Div, m + 1, 2, 0, false}, {Mod, m + 1, 2, 0, false}, {Div, 2, -m - 1, 0, false}, {Mod, 2, -m - 1, 0, false},
		{Div, math.MinInt, -1, 0, false}, {Mod, math.MinInt, -1, 0, false},
		{Div, 0, m + 1, 0, false}, {Mod, 0, m + 1, 0, false},
	})
}

// P1.3: the canonical form of every kind of int, in range or not.
func TestText(t *testing.T) {
	for _, n := range samples() {
		if got, want := Text(n), big.NewInt(int64(n)).String(); got != want {
			t.Errorf("Text(%d) = %q; want %q", n, got, want)
		}
	}
	for s, n := range map[string]int{
		"0":                    0,
		"9":                    9,
		"-10":                  -10,
		"9007199254740993":     api.MaxNum + 1,
		"9223372036854775807":  math.MaxInt,
		"-9223372036854775808": math.MinInt,
	} {
		if got := Text(n); got != s {
			t.Errorf("Text(%d) = %q; want %q", n, got, s)
		}
	}
}

// P1.3: Parse of texts that are not canonical, and of integers that are not an int.
func TestParseRejects(t *testing.T) {
	for _, s := range []string{
		"", "-", "+", "-0", "+0", "00", "01", "-01", "0001", "+1", "--1", "-+1", "1-", "1-2",
		" 1", "1 ", "1\n", "- 1", "1 2", "1_000", "1.0", "1e3", "0x1", "0b1", "a", "-a", "1a", "a1",
		"/", ":", "1/", "1:", "-/", "\x00", "1\x00", "1\xff", "\xb1",
		"\u0661", "1\u0662", "\u00b2", "\uff11", "\u22121", "\u0131",
		"9223372036854775808", "-9223372036854775809", "18446744073709551616", "18446744073709551617",
		"10000000000000000000", "99999999999999999999", strings.Repeat("9", 5000), "-" + strings.Repeat("1", 5000),
	} {
		if n, ok := Parse(s, math.MinInt, math.MaxInt); n != 0 || ok {
			t.Errorf("Parse(%.30q) = %d, %t", s, n, ok)
		}
	}
}

// P1.3: every text of at most three characters out of an alphabet, held against the definition.
func TestParseShortTexts(t *testing.T) {
	canonical := map[string]int{}
	for n := -999; n <= 999; n++ {
		canonical[big.NewInt(int64(n)).String()] = n
	}
	texts := []string{""}
	for k := 0; k < len(texts); k++ {
		if len(texts[k]) == 3 {
			continue
		}
		for _, c := range "-+0159 a/:" {
			texts = append(texts, texts[k]+string(c))
		}
	}
	for _, s := range texts {
		want, ok := canonical[s]
		if got, good := Parse(s, math.MinInt, math.MaxInt); got != want || good != ok {
			t.Errorf("Parse(%q) = %d, %t; want %d, %t", s, got, good, want, ok)
		}
	}
}

// P1.3: the bounds of Parse are inclusive, and no integer lies between bounds that are out of order.
func TestParseBounds(t *testing.T) {
	l := samples()
	for _, n := range l {
		for _, low := range l {
			for _, high := range l {
				want, ok := 0, false
				if low <= n && n <= high {
					want, ok = n, true
				}
				if got, good := Parse(Text(n), low, high); got != want || good != ok {
					t.Fatalf("Parse(%q, %d, %d) = %d, %t; want %d, %t", Text(n), low, high, got, good, want, ok)
				}
			}
		}
	}
}

// P1.4: Clamp, also with bounds that are out of order.
func TestClamp(t *testing.T) {
	for k, x := range []struct{ n, low, high, want int }{
		{0, 1, 3, 1}, {1, 1, 3, 1}, {2, 1, 3, 2}, {3, 1, 3, 3}, {4, 1, 3, 3},
		{-5, -3, -1, -3}, {-2, -3, -1, -2}, {0, -3, -1, -1}, {7, 4, 4, 4}, {1, 4, 4, 4},
		{5, 9, 3, 9}, {2, 9, 3, 9}, {9, 9, 3, 3}, {10, 9, 3, 3},
		{math.MinInt, math.MinInt, math.MaxInt, math.MinInt}, {math.MaxInt, math.MinInt, math.MaxInt, math.MaxInt},
		{math.MinInt, 0, 1, 0}, {math.MaxInt, 0, 1, 1}, {0, math.MaxInt, math.MinInt, math.MaxInt},
	} {
		if got := Clamp(x.n, x.low, x.high); got != x.want {
			t.Errorf("row %d: Clamp(%d, %d, %d) = %d; want %d", k, x.n, x.low, x.high, got, x.want)
		}
	}
}

// P1.5: addition and multiplication are commutative, whether or not they overflow, and subtraction inverts addition.
func TestPairProperties(t *testing.T) {
	for _, a := range samplesInRange() {
		for _, b := range samplesInRange() {
			s, ok := Add(a, b)
			if r, good := Add(b, a); r != s || good != ok {
				t.Errorf("Add does not commute: %d, %d", a, b)
			}
			if r, good := Sub(s, b); ok && (r != a || !good) {
				t.Errorf("Sub does not invert Add: %d, %d", a, b)
			}
			p, ok := Mul(a, b)
			if r, good := Mul(b, a); r != p || good != ok {
				t.Errorf("Mul does not commute: %d, %d", a, b)
			}
		}
	}
}

// twice applies two operations in turn and reports whether neither overflowed.
func twice(first, second func(a, b int) (int, bool), a, b, c int) (int, bool) {
	n, ok := first(a, b)
	r, good := second(n, c)
	return r, ok && good
}

// P1.5: associativity and distributivity, wherever no overflow occurs on either side.
func TestTripleProperties(t *testing.T) {
	for _, a := range samplesInRange() {
		for _, b := range samplesInRange() {
			for _, c := range samplesInRange() {
				for _, op := range []func(a, b int) (int, bool){Add, Mul} {
					l, ok := twice(op, op, a, b, c)
					r, good := twice(op, op, b, c, a)
					if ok && good && l != r {
						t.Errorf("not associative: %d, %d, %d", a, b, c)
					}
				}
				l, ok := twice(Add, Mul, a, b, c)
				p, left := Mul(a, c)
				q, right := Mul(b, c)
				r, good := Add(p, q)
				if ok && left && right && (!good || l != r) {
					t.Errorf("not distributive: %d, %d, %d", a, b, c)
				}
			}
		}
	}
}

// P1.5: the quotient and the remainder reconstruct the dividend.
func TestReconstruction(t *testing.T) {
	for _, a := range samplesInRange() {
		for _, b := range samplesInRange() {
			if b == 0 {
				continue
			}
			q, ok := Div(a, b)
			r, good := Mod(a, b)
			p, fits := Mul(q, b)
			if n, sum := Add(p, r); !ok || !good || !fits || !sum || n != a {
				t.Errorf("%d / %d: %d rest %d", a, b, q, r)
			}
			if r != 0 && r < 0 != (a < 0) {
				t.Errorf("%d / %d: the sign of the rest %d", a, b, r)
			}
		}
	}
}

// P1.5: Parse inverts Text, for every int.
func TestParseInvertsText(t *testing.T) {
	for _, n := range samples() {
		if got, ok := Parse(Text(n), math.MinInt, math.MaxInt); got != n || !ok {
			t.Errorf("Parse(Text(%d)) = %d, %t", n, got, ok)
		}
	}
	for n := -20000; n <= 20000; n++ {
		if got, ok := Parse(Text(n), n, n); got != n || !ok {
			t.Errorf("Parse(Text(%d)) = %d, %t", n, got, ok)
		}
	}
}
