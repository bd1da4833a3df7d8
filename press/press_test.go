package press

import (
	"bytes"
	"encoding/binary"
	"math"
	"math/rand"
	"strings"
	"testing"
)

const most = 1 << 24

func num(n int) string { return string(binary.AppendUvarint(nil, uint64(n))) }

func lit(l string) string { return num(2*len(l)) + l }

func match(length, distance int) string { return num(2*length+1) + num(distance) }

func packed(n int, tokens ...string) string { return num(n) + strings.Join(tokens, "") }

// longestOf and packOf are the definitions of the chapter, tried distance by distance and byte by byte, apart from the code under test.
func longestOf(s string, i int) (length, distance int) {
	for d := 1; d <= min(i, 4096); d++ {
		k := 0
		for i+k < len(s) && s[i+k] == s[i+k-d] {
			k++
		}
		if k > length {
			length, distance = k, d
		}
	}
	return length, distance
}

func packOf(s string) string {
	out, literals := num(len(s)), ""
	flush := func() {
		if literals != "" {
			out += lit(literals)
			literals = ""
		}
	}
	for i := 0; i < len(s); {
		if k, d := longestOf(s, i); k >= 4 {
			flush()
			out += match(k, d)
			i += k
		} else {
			literals += s[i : i+1]
			i++
		}
	}
	flush()
	return out
}

// numberOf splits a number off s. It is valid only if it is encoded as Num would encode it.
func numberOf(s string) (n int, rest string, ok bool) {
	u, size := binary.Uvarint([]byte(s))
	if size <= 0 || u > math.MaxInt || num(int(u)) != s[:size] {
		return 0, "", false
	}
	return int(u), s[size:], true
}

// unpackOf is the definition of a packed string.
func unpackOf(s string) (string, bool) {
	n, s, ok := numberOf(s)
	if !ok || n > most {
		return "", false
	}
	var out []byte
	for s != "" {
		t, rest, ok := numberOf(s)
		k := t / 2
		if !ok || k < 1 || k > n {
			return "", false
		}
		if t%2 == 0 {
			if k > len(rest) {
				return "", false
			}
			out, s = append(out, rest[:k]...), rest[k:]
			continue
		}
		d, rest, ok := numberOf(rest)
		if !ok || d < 1 || d > len(out) {
			return "", false
		}
		for range k {
			out = append(out, out[len(out)-d])
		}
		s = rest
	}
	if len(out) != n {
		return "", false
	}
	return string(out), true
}

// brief shows enough of a long string to recognize it.
func brief(s string) string {
	if len(s) <= 60 {
		return s
	}
	return s[:30] + "..." + s[len(s)-30:]
}

func packs(t *testing.T, s, want string) {
	t.Helper()
	if got := Pack(s); got != want {
		t.Errorf("Pack of %d bytes, %q, = %d bytes, %q; want %d bytes, %q", len(s), brief(s), len(got), brief(got), len(want), brief(want))
	}
	unpacks(t, want, s)
}

func unpacks(t *testing.T, p, want string) {
	t.Helper()
	if got, ok := Unpack(p); !ok || got != want {
		t.Errorf("Unpack of %d bytes, %q, = %d bytes, %q, %t; want %d bytes, %q", len(p), brief(p), len(got), brief(got), ok, len(want), brief(want))
	}
}

func rejects(t *testing.T, p string) {
	t.Helper()
	if got, ok := Unpack(p); ok || got != "" {
		t.Errorf("Unpack of %d bytes, %q, = %d bytes, %q, %t", len(p), brief(p), len(got), brief(got), ok)
	}
}

// noise is a string of bytes above 127 in which no four bytes occur twice, so that Pack finds no match in it.
func noise(n int) string {
	g := rand.New(rand.NewSource(4))
	seen := map[[4]byte]bool{}
	out := []byte{128, 129, 130}
	for len(out) < n {
		c := byte(128 + g.Intn(128))
		if four := [4]byte(append(out[len(out)-3:len(out):len(out)], c)); !seen[four] {
			seen[four] = true
			out = append(out, c)
		}
	}
	return string(out[:n])
}

// strand is a string of n bytes over the first letters.
func strand(g *rand.Rand, n, letters int) string {
	b := make([]byte, n)
	for k := range b {
		b[k] = byte('a' + g.Intn(letters))
	}
	return string(b)
}

// patched is a string of pieces of itself, of new bytes and of runs, so that it has matches of many lengths and distances.
func patched(g *rand.Rand, n int) string {
	out := []byte(strand(g, 8, 26))
	for len(out) < n {
		switch g.Intn(4) {
		case 0:
			out = append(out, strand(g, 1+g.Intn(9), 26)...)
		case 1:
			out = append(out, bytes.Repeat(out[len(out)-1:], 1+g.Intn(9))...)
		default:
			from := g.Intn(len(out))
			out = append(out, out[from:min(len(out), from+2+g.Intn(60))]...)
		}
	}
	return string(out[:n])
}

// P4.1: strings packed by hand.
func TestPackExamples(t *testing.T) {
	packs(t, "aaaaaa", "\x06\x02a\x0b\x01")
	packs(t, "", "\x00")
	packs(t, "a", "\x01\x02a")
	packs(t, "\x00", "\x01\x02\x00")
	packs(t, "\xff", "\x01\x02\xff")
	packs(t, "ab", "\x02\x04ab")
	packs(t, "aaa", "\x03\x06aaa")
	packs(t, "aaaa", "\x04\x08aaaa")
	packs(t, "aaaaa", "\x05\x02a\x09\x01")
	packs(t, "\x00\x00\x00\x00\x00", "\x05\x02\x00\x09\x01")
	packs(t, "baaaa", "\x05\x0abaaaa")
	packs(t, "baaaaab", "\x07\x04ba\x09\x01\x02b")
	packs(t, "abcabc", "\x06\x0cabcabc")
	packs(t, "abcdabc", "\x07\x0eabcdabc")
	packs(t, "abcdabcd", "\x08\x08abcd\x09\x04")
}

// P4.1: a match of three bytes stays literal and one of four does not, at the end and before other bytes.
func TestShortestMatch(t *testing.T) {
	packs(t, "wxy-wxy", packed(7, lit("wxy-wxy")))
	packs(t, "wxy-wxy+", packed(8, lit("wxy-wxy+")))
	packs(t, "wxyz-wxyz", packed(9, lit("wxyz-"), match(4, 5)))
	packs(t, "wxyz-wxyz+", packed(10, lit("wxyz-"), match(4, 5), lit("+")))
	packs(t, "wxyz-wxyz+wxy", packed(13, lit("wxyz-"), match(4, 5), lit("+wxy")))
	packs(t, "\x00\x00\x00\x01-\x00\x00\x00\x02", packed(9, lit("\x00\x00\x00\x01-\x00\x00\x00\x02")))
	packs(t, "\x01\x00\x00\x00-\x02\x00\x00\x00", packed(9, lit("\x01\x00\x00\x00-\x02\x00\x00\x00")))
	packs(t, "\x00\x00\x00\x00-\x00\x00\x00\x00", packed(9, lit("\x00\x00\x00\x00-"), match(4, 5)))
}

// P4.1: matches that produce bytes which they copy themselves.
func TestPackOverlap(t *testing.T) {
	for n := 5; n < 400; n++ {
		packs(t, strings.Repeat("a", n), packed(n, lit("a"), match(n-1, 1)))
		packs(t, "b"+strings.Repeat("a", n)+"b", packed(n+2, lit("ba"), match(n-1, 1), lit("b")))
	}
	for n := 6; n < 400; n++ {
		packs(t, strings.Repeat("ab", 200)[:n], packed(n, lit("ab"), match(n-2, 2)))
	}
	packs(t, "abcabcabcabca", packed(13, lit("abc"), match(10, 3)))
}

// P4.1: the greatest length wins, wherever the longer match is, and the least distance wins among equal ones.
func TestLongestMatch(t *testing.T) {
	packs(t, "abcde1abcd2abcde3", packed(17, lit("abcde1"), match(4, 6), lit("2"), match(5, 11), lit("3")))
	packs(t, "abcd1abcde2abcde3", packed(17, lit("abcd1"), match(4, 5), lit("e2"), match(5, 6), lit("3")))
	packs(t, "abcd1abcd2abcd3", packed(15, lit("abcd1"), match(4, 5), lit("2"), match(4, 5), lit("3")))
	packs(t, "wxyz-wxyz+wxyz", packed(14, lit("wxyz-"), match(4, 5), lit("+"), match(4, 5)))
	packs(t, "abcdef1abcdef2abcdefg-abcdefg", packed(29, lit("abcdef1"), match(6, 7), lit("2"), match(6, 7), lit("g-"), match(7, 8)))
	packs(t, "abcdXabcdYabcdXZ", packed(16, lit("abcdX"), match(4, 5), lit("Y"), match(5, 10), lit("Z")))
	packs(t, "abcdXabcdYabcdYZ", packed(16, lit("abcdX"), match(4, 5), lit("Y"), match(5, 5), lit("Z")))
	packs(t, "aaaaa-aaaaaa+", packed(13, lit("a"), match(4, 1), lit("-"), match(5, 6), lit("a+")))
}

// P4.1: a match ends at the first byte that differs, wherever that is and however much is equal behind it.
func TestOneByteDiffers(t *testing.T) {
	const n = 140
	far := noise(n)
	for k := 4; k <= n-5; k++ {
		packs(t, far+far[:k]+"!"+far[k+1:], packed(2*n, lit(far), match(k, n), lit("!"), match(n-k-1, n)))
		packs(t, far+"-"+far[:k]+"!", packed(n+k+2, lit(far+"-"), match(k, n+1), lit("!")))
		packs(t, far+"-"+far[:k], packed(n+k+1, lit(far+"-"), match(k, n+1)))
	}
}

// P4.1: a match is taken at once, even if the next offset had a longer one.
func TestGreedy(t *testing.T) {
	packs(t, "abcd-bcdefgh+abcdefgh", packed(21, lit("abcd-bcdefgh+"), match(4, 13), match(4, 9)))
	packs(t, "bcdefgh+abcd-abcdefgh", packed(21, lit("bcdefgh+abcd-"), match(4, 5), match(4, 14)))
}

// P4.1: literals before, between and behind matches, as one token each, and matches without literals between them.
func TestLiterals(t *testing.T) {
	packs(t, "abcd"+"1234"+"abcd"+"x"+"1234"+"yz"+"abcd"+"!", packed(24, lit("abcd1234"), match(4, 8), lit("x"), match(4, 9), lit("yz"), match(4, 11), lit("!")))
	packs(t, "abcd"+"efgh"+"-"+"efgh"+"abcd", packed(17, lit("abcdefgh-"), match(4, 5), match(4, 13)))
	for _, n := range []int{1, 2, 63, 64, 65, 255, 256, 4096, 8191, 8192, 8193} {
		l := noise(n)
		packs(t, l, packed(n, lit(l)))
		packs(t, l+"aaaaa"+l[:1], packed(n+6, lit(l+"a"), match(4, 1), lit(l[:1])))
	}
}

// P4.1: offsets within a match are candidates for later matches as well.
func TestMatchesInsideMatches(t *testing.T) {
	packs(t, "abcdefgh-abcdefgh+cdefg!defgh", packed(29, lit("abcdefgh-"), match(8, 9), lit("+"), match(5, 7), lit("!"), match(5, 12)))
}

// P4.1: the greatest distance of a match is 4096.
func TestDistances(t *testing.T) {
	far := noise(5000)
	for _, d := range []int{4, 5, 127, 128, 4093, 4094, 4095, 4096} {
		gap := far[:d-4]
		packs(t, "wxyz"+gap+"wxyz", packed(d+4, lit("wxyz"+gap), match(4, d)))
		packs(t, "-+"+"wxyz"+gap+"wxyz!", packed(d+7, lit("-+wxyz"+gap), match(4, d), lit("!")))
	}
	for _, d := range []int{4097, 4098, 4099, 4100, 4101, 5000} {
		gap := far[:d-4]
		packs(t, "wxyz"+gap+"wxyz", packed(d+4, lit("wxyz"+gap+"wxyz")))
		packs(t, "-+"+"wxyz"+gap+"wxyz!", packed(d+7, lit("-+wxyz"+gap+"wxyz!")))
	}
	for _, n := range []int{4, 5, 6, 300} {
		packs(t, far[:4096]+far[:n], packed(4096+n, lit(far[:4096]), match(n, 4096)))
		packs(t, far[:4097]+far[:n], packed(4097+n, lit(far[:4097]+far[:n])))
	}
	packs(t, strings.Repeat(far[:4096], 3), packed(3*4096, lit(far[:4096]), match(2*4096, 4096)))
	packs(t, strings.Repeat(far[:4097], 3), packed(3*4097, lit(strings.Repeat(far[:4097], 3))))
}

// P4.1: a longer match at the edge of the window counts and one beyond it does not, whatever is nearer; of two equal ones the nearer counts.
func TestEdgeOfTheWindow(t *testing.T) {
	const long, short = "wxyz1234", "wxyz12"
	far := noise(10000)
	for _, near := range []int{9, 20, 100, 2048, 4000} {
		for d := 4090; d <= 4102; d++ {
			before, behind := far[:d-near-len(long)-1]+"+", far[5000:5000+near-len(short)-1]+"-"
			tokens := []string{lit(long + before), match(6, d-near), lit(behind), match(8, d), lit("!")}
			if d > 4096 {
				tokens = append(tokens[:3], match(6, near), lit("34!"))
			}
			packs(t, long+before+short+behind+long+"!", packed(d+9, tokens...))
			behind = behind[2:]
			packs(t, long+before+long+behind+long+"!", packed(d+9, lit(long+before), match(8, d-near), lit(behind), match(8, near), lit("!")))
		}
	}
}

// P4.1: all short strings over few letters.
func TestAllShortStrings(t *testing.T) {
	var grow func(s []byte, letters, length int)
	grow = func(s []byte, letters, length int) {
		if got, want := Pack(string(s)), packOf(string(s)); got != want {
			t.Fatalf("Pack(%q) = %q, want %q", s, got, want)
		}
		if len(s) < length {
			for c := range letters {
				grow(append(s, byte('a'+c)), letters, length)
			}
		}
	}
	grow(make([]byte, 0, 20), 1, 20)
	grow(make([]byte, 0, 20), 2, 15)
	grow(make([]byte, 0, 20), 3, 10)
}

// samples are strings of all kinds, short and long, with matches of all kinds or without any.
func samples() []string {
	g := rand.New(rand.NewSource(5))
	var l []string
	for k := range 400 {
		for _, letters := range []int{1, 2, 3, 4, 26, 150} {
			l = append(l, strand(g, k%250, letters))
		}
		l = append(l, patched(g, k))
	}
	for _, n := range []int{4097, 5000, 9000, 13000} {
		l = append(l, strand(g, n, 2), strand(g, n, 5), patched(g, n), noise(n))
	}
	for _, run := range []int{7, 100, 2500, 4094, 4095, 4096, 4097, 5000} {
		l = append(l, strings.Repeat(strings.Repeat("a", run)+"b", 10000/run+1), strings.Repeat(strings.Repeat("a", run)+"bcdefg", 10000/run+1))
		var runs strings.Builder
		for runs.Len() < 10000 {
			runs.WriteString(strings.Repeat("a", 1+g.Intn(run)) + strand(g, 1, 9))
		}
		l = append(l, runs.String())
	}
	return l
}

// P4.1: the definition, on the samples.
func TestPackDefinition(t *testing.T) {
	for _, s := range samples() {
		packs(t, s, packOf(s))
	}
}

// P4.1: the longest strings, as a run and as a single literal, and one that is too long.
func TestLongestStrings(t *testing.T) {
	packs(t, strings.Repeat("a", most), packed(most, lit("a"), match(most-1, 1)))
	l := strings.Repeat(noise(5000), most/5000+1)[:most]
	packs(t, l, packed(most, lit(l)))
	packs(t, strings.Repeat("a", most-1), packed(most-1, lit("a"), match(most-2, 1)))
	for _, s := range []string{strings.Repeat("a", most+1), l + "a", strings.Repeat(l[:5000], 4000)} {
		if got := Pack(s); got != "" {
			t.Errorf("Pack of %d bytes = %d bytes", len(s), len(got))
		}
	}
}

// P4.2: packed strings that Pack does not make.
func TestUnpackOtherTokens(t *testing.T) {
	unpacks(t, packed(3, lit("x"), lit("y"), lit("z")), "xyz")
	unpacks(t, packed(3, lit("x"), match(2, 1)), "xxx")
	unpacks(t, packed(2, lit("x"), match(1, 1)), "xx")
	unpacks(t, packed(5, lit("xy"), match(3, 2)), "xyxyx")
	unpacks(t, packed(4, lit("x"), match(1, 1), match(1, 2), match(1, 3)), "xxxx")
	unpacks(t, packed(6, lit("abc"), match(1, 3), match(1, 3), match(1, 3)), "abcabc")
	unpacks(t, packed(7, lit("abc"), match(2, 2), lit("d"), match(1, 6)), "abcbcda")
	unpacks(t, packed(8, lit("aaaa"), match(4, 4)), "aaaaaaaa")
	for _, d := range []int{4095, 4096, 4097, 5000, 100000} {
		l := strings.Repeat(noise(5000), 20)[:d]
		unpacks(t, packed(d+3, lit(l), match(3, d)), l+l[:3])
		unpacks(t, packed(2*d+5, lit(l), match(d+5, d)), l+l+l[:5])
	}
	unpacks(t, packed(most, lit("ab"), match(most-2, 2)), strings.Repeat("ab", most/2))
	unpacks(t, packed(0), "")
}

// P4.2: each way in which a string is not packed.
func TestUnpackInvalid(t *testing.T) {
	endless := strings.Repeat("\xff", 9)
	for _, p := range []string{
		"",
		// numbers that end too early, have a superfluous digit or have too many digits
		"\x80", "\x80\x00", "\x81\x00\x02x", "\x81\x80\x00\x02x", "\xff", endless, endless + "\x01", endless + "\x01\x02x",
		"\x01\x82\x00x", "\x02\x02x\x83\x00\x01", "\x02\x02x\x03\x81\x00", "\x01\x82", "\x02\x02x\x83", "\x02\x02x\x03\x81", "\x01" + endless + "\x01x", "\x02\x02x\x03" + endless + "\x01",
		// further bytes
		"\x00\x00", "\x00\x01", "\x00\x02x", "\x00\x80", packed(1, lit("x"), "\x00"), packed(1, lit("x"), "\x01"), packed(1, lit("x"), "x"), packed(1, lit("x"), lit("")), packed(1, lit("x"), match(0, 1)),
		// tokens of length 0
		"\x01\x00", "\x01\x01", "\x01\x01\x01", packed(1, lit(""), lit("x")), packed(1, match(0, 1), lit("x")), packed(2, lit("x"), match(0, 1), lit("y")), packed(2, lit("x"), lit(""), lit("y")), packed(2, lit("x"), match(0, 1)),
		// distances
		packed(1, match(1, 1)), packed(4, match(4, 1)), packed(2, lit("x"), match(1, 0)), packed(2, lit("x"), match(1, 2)), packed(5, lit("xyz"), match(2, 4)), packed(9, lit("x"), match(3, 1), match(5, 5)), packed(2, lit("x"), match(1, math.MaxInt)),
		// tokens that produce fewer bytes than the length says
		"\x01", "\x01\x02", "\x01\x03", packed(2, lit("x")), packed(3, lit("x"), match(1, 1)), packed(5, "\x0axyz"), packed(5, "\x0a"), packed(2, lit("x"), "\x03"), packed(most, lit("x")),
		// tokens that produce more
		packed(0, lit("x")), packed(1, lit("xx")), packed(2, lit("x"), lit("yz")), packed(2, lit("x"), match(2, 1)), packed(1, lit("x"), match(1, 1)), packed(3, lit("x"), match(1, 1), match(2, 1)),
		packed(1, num(math.MaxInt-1)+"x"), packed(2, lit("x"), match(math.MaxInt/2, 1)), packed(2, lit("x"), num(math.MaxInt-1)+"y"),
		// lengths above 2^24
		num(most + 1), num(1 << 40), num(math.MaxInt), num(most+1) + lit("x"), packed(most+1, lit("x"), match(most, 1)), packed(most+1, lit("x"), match(most-1, 1)), packed(most+1, lit("x"), match(most-1, 1), lit("y")), packed(math.MaxInt, lit("x"), match(math.MaxInt/2, 1)),
	} {
		rejects(t, p)
	}
	long := strings.Repeat("x", most)
	rejects(t, packed(most+1, lit(long), lit("y")))
	rejects(t, packed(most+1, lit(long+"y")))
	rejects(t, packed(most, lit("y"), match(most, 1)))
}

// P4.2: all short strings over the bytes that make tokens and lengths, among them nearly all the short packed strings there are.
func TestAllShortPackedStrings(t *testing.T) {
	valid := map[string]bool{}
	var grow func(p []byte, length int)
	grow = func(p []byte, length int) {
		got, ok := Unpack(string(p))
		want, good := unpackOf(string(p))
		if got != want || ok != good {
			t.Fatalf("Unpack(%q) = %q, %t; want %q, %t", p, got, ok, want, good)
		}
		if ok {
			valid[string(p)] = true
		}
		if len(p) < length {
			for _, c := range []byte{0, 1, 2, 3, 4, 5, 7, 128, 131} {
				grow(append(p, c), length)
			}
		}
	}
	grow(make([]byte, 0, 10), 6)
	if len(valid) < 100 {
		t.Errorf("only %d packed strings among the short ones", len(valid))
	}
	for p := range valid {
		for n := range p {
			if valid[p[:n]] {
				t.Errorf("%q and its prefix %q are both packed", p, p[:n])
			}
		}
	}
}

// anyPacked is a packed string of tokens of all kinds, with its output.
func anyPacked(g *rand.Rand) (p, output string) {
	var tokens []string
	var out []byte
	for range g.Intn(12) {
		k := 1 + g.Intn(1<<g.Intn(9))
		if len(out) == 0 || g.Intn(2) == 0 {
			l := strand(g, k, 200)
			tokens = append(tokens, lit(l))
			out = append(out, l...)
			continue
		}
		d := 1 + g.Intn(len(out))
		tokens = append(tokens, match(k, d))
		for range k {
			out = append(out, out[len(out)-d])
		}
	}
	return packed(len(out), tokens...), string(out)
}

// P4.2: packed strings of arbitrary tokens, and what becomes of them when a byte is changed, left out or added.
func TestUnpackDefinition(t *testing.T) {
	g := rand.New(rand.NewSource(6))
	same := func(p string) {
		t.Helper()
		got, ok := Unpack(p)
		if want, good := unpackOf(p); got != want || ok != good {
			t.Fatalf("Unpack(%q) = %q, %t; want %q, %t", brief(p), brief(got), ok, brief(want), good)
		}
	}
	for range 2000 {
		p, out := anyPacked(g)
		unpacks(t, p, out)
		for range 20 {
			k := g.Intn(len(p))
			c := string([]byte{byte(g.Intn(256))})
			same(p[:k] + c + p[k+1:])
			same(p[:k] + p[k+1:])
			same(p[:k] + c + p[k:])
		}
		for c := range 256 {
			rejects(t, p+string([]byte{byte(c)}))
		}
	}
}

// P4.3: Unpack inverts Pack, and a packed string is at most twice as long as the string, and eight bytes.
func TestRoundTrip(t *testing.T) {
	g := rand.New(rand.NewSource(7))
	l := samples()
	for n := range 300 {
		b := make([]byte, n)
		g.Read(b)
		l = append(l, string(b), string(bytes.Repeat(b, 3)))
	}
	for _, n := range []int{1 << 16, 1 << 18} {
		l = append(l, strand(g, n, 1), strand(g, n, 2), strand(g, n, 256-'a'), patched(g, n))
	}
	for _, s := range l {
		p := Pack(s)
		unpacks(t, p, s)
		if len(p) > 2*len(s)+8 {
			t.Errorf("%d bytes, %q, are packed into %d", len(s), brief(s), len(p))
		}
	}
}

// P4.3: a string that repeats a period is packed into the period and the numbers around it.
func TestPeriods(t *testing.T) {
	g := rand.New(rand.NewSource(8))
	far := noise(4096)
	for n := 1; n <= 4096; n++ {
		if n > 300 && n < 4090 && n%100 != 0 {
			continue
		}
		for _, times := range []int{2, 3, 50} {
			s := strings.Repeat(far[:n], times)
			for _, part := range []string{s, s[:len(s)-n/2]} {
				if len(part)-n >= 4 {
					packs(t, part, packed(len(part), lit(far[:n]), match(len(part)-n, n)))
				}
			}
			if s = strings.Repeat(strand(g, n, 26), times); len(Pack(s)) > n+32 {
				t.Errorf("%d times a period of %d bytes is packed into %d", times, n, len(Pack(s)))
			}
		}
	}
}

// P4.3: no proper prefix of a packed string is one, whether Pack made it or not.
func TestNoPrefix(t *testing.T) {
	g := rand.New(rand.NewSource(9))
	var l []string
	for k := range 300 {
		p, _ := anyPacked(g)
		l = append(l, p, Pack(strand(g, k, 1+k%5)), Pack(patched(g, k)), Pack(noise(k)))
	}
	for _, p := range l {
		if _, ok := Unpack(p); !ok {
			t.Fatalf("%q is not packed", brief(p))
		}
		for n := range p {
			rejects(t, p[:n])
		}
	}
}

// P4.1 and P4.2, with DOC.md's P3 and P4: a result depends on the argument alone, and bytes beside it are not read.
func TestRepeatable(t *testing.T) {
	g := rand.New(rand.NewSource(10))
	for k := range 100 {
		whole := patched(g, 100+20*k)
		part := whole[30 : len(whole)-40]
		first := Pack(part)
		Pack(whole)
		Unpack(first[:len(first)/2])
		if again := Pack(strings.Clone(part)); again != first {
			t.Fatalf("%q is packed into %q and into %q", brief(part), brief(first), brief(again))
		}
		framed := "\x01" + first + "\x02x"
		unpacks(t, framed[1:1+len(first)], part)
	}
}
