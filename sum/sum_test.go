package sum

import (
	"bytes"
	"crypto/sha256"
	"encoding/hex"
	"hash/crc32"
	"math/rand"
	"slices"
	"strings"
	"testing"

	"retroact/api"
)

const polynomial = 0x82f63b78

// step and crcOf are the definitions of the chapter, bit by bit, apart from the code under test.
func step(c uint32) uint32 {
	if c%2 == 0 {
		return c / 2
	}
	return c/2 ^ polynomial
}

func crcOf(s string) uint32 {
	c := uint32(0xffffffff)
	for _, b := range []byte(s) {
		c ^= uint32(b)
		for range 8 {
			c = step(c)
		}
	}
	return ^c
}

func anyString(g *rand.Rand, length int) string {
	b := make([]byte, length)
	g.Read(b)
	return string(b)
}

// strands are strings of every length up to three blocks of SHA-256, and some longer ones: of one byte only, and of arbitrary bytes.
func strands() []string {
	g := rand.New(rand.NewSource(3))
	var l []string
	for n := range 3*64 + 2 {
		l = append(l, strings.Repeat("\x00", n), strings.Repeat("\xff", n), strings.Repeat("\x80", n), strings.Repeat("a", n), anyString(g, n))
	}
	for _, n := range []int{1000, 4095, 4096, 4097, 1<<16 - 9, 1<<16 - 8, 1 << 16, 1<<16 + 1} {
		l = append(l, anyString(g, n))
	}
	return append(l, everyByte(), everyByte()+everyByte())
}

func everyByte() string {
	var b []byte
	for k := range 256 {
		b = append(b, byte(k))
	}
	return string(b)
}

// long is a string whose length in bits needs four bytes of the padding of SHA-256.
func long() string { return strings.Repeat(everyByte()+"retroact", 8200) }

// P3.1: published checksums.
func TestKnownChecksums(t *testing.T) {
	for _, x := range []struct {
		s    string
		want uint32
	}{
		{"", 0},
		{"a", 0xc1d04330},
		{"123456789", 0xe3069283},
		{strings.Repeat("\x00", 32), 0x8a9136aa},
		{strings.Repeat("\xff", 32), 0x62a8ab43},
		{everyByte()[:32], 0x46dd794e},
	} {
		if got := Crc(x.s); got != x.want {
			t.Errorf("Crc(%q) = %#x; want %#x", x.s, got, x.want)
		}
	}
}

// P3.1: the definition, for all strings of one byte or two, and for strings of many lengths.
func TestChecksumDefinition(t *testing.T) {
	same := func(s string) {
		t.Helper()
		if got, want := Crc(s), crcOf(s); got != want {
			t.Errorf("Crc of %d bytes, %.20q = %#x; want %#x", len(s), s, got, want)
		}
	}
	for a := range 256 {
		same(string([]byte{byte(a)}))
		for b := range 256 {
			same(string([]byte{byte(a), byte(b)}))
		}
	}
	for _, s := range strands() {
		same(s)
	}
	table := crc32.MakeTable(crc32.Castagnoli)
	if got, want := Crc(long()), crc32.Checksum([]byte(long()), table); got != want {
		t.Errorf("Crc of a long string = %#x; want %#x", got, want)
	}
}

// P3.2: the digests that the standard's authors publish, of no block up to many.
func TestKnownDigests(t *testing.T) {
	for s, want := range map[string]string{
		"":    "e3b0c44298fc1c149afbf4c8996fb92427ae41e4649b934ca495991b7852b855",
		"abc": "ba7816bf8f01cfea414140de5dae2223b00361a396177a9cb410ff61f20015ad",
		"abcdbcdecdefdefgefghfghighijhijkijkljklmklmnlmnomnopnopq":                                                         "248d6a61d20638b8e5c026930c3e6039a33ce45964ff2167f6ecedd419db06c1",
		"abcdefghbcdefghicdefghijdefghijkefghijklfghijklmghijklmnhijklmnoijklmnopjklmnopqklmnopqrlmnopqrsmnopqrstnopqrstu": "cf5b16a778af8380036ce59e7b0492370b249b11e8f07a51afac45037afee9d1",
		strings.Repeat("a", 1000000): "cdc76e5c9914fb9281a1c7e284d73e67f1809a48a497200e046d39ccc7112cd0",
	} {
		if got := Hex(Sha(s)); got != want {
			t.Errorf("digest of %d bytes, %.20q = %s; want %s", len(s), s, got, want)
		}
	}
}

// P3.2: the standard library's digests, for every length at which the padding needs one block or two, and for long strings.
func TestDigests(t *testing.T) {
	for _, s := range append(strands(), long()) {
		if got, want := Sha(s), api.Digest(sha256.Sum256([]byte(s))); got != want {
			t.Errorf("digest of %d bytes, %.20q = %x; want %x", len(s), s, got, want)
		}
	}
	for b := range 256 {
		s := string([]byte{byte(b)})
		if got, want := Sha(s), api.Digest(sha256.Sum256([]byte(s))); got != want {
			t.Errorf("digest of %q = %x; want %x", s, got, want)
		}
	}
}

// digests are the least and the greatest digest, digests that have one byte of every value at each place, and digests of strings.
func digests() []api.Digest {
	var ones api.Digest
	for k := range ones {
		ones[k] = 0xff
	}
	l := []api.Digest{{}, ones}
	for k := range ones {
		for b := range 256 {
			d := api.Digest{}
			d[k] = byte(b)
			e := ones
			e[k] = byte(b)
			l = append(l, d, e)
		}
	}
	for _, s := range []string{"", "a", "abc", "retroact"} {
		l = append(l, Sha(s))
	}
	return l
}

// P3.2: two digits for each byte, the high one first.
func TestHex(t *testing.T) {
	for _, d := range digests() {
		if got, want := Hex(d), hex.EncodeToString(d[:]); got != want {
			t.Errorf("Hex(%v) = %q; want %q", [32]byte(d), got, want)
		}
	}
	d := api.Digest{0: 0x1f, 1: 0x0a, 30: 0xa0, 31: 0xe9}
	if got, want := Hex(d), "1f0a"+strings.Repeat("00", 28)+"a0e9"; got != want {
		t.Errorf("Hex = %q; want %q", got, want)
	}
}

// P3.2: Read of the forms of digests.
func TestRead(t *testing.T) {
	s := "0123456789abcdef" + "fedcba9876543210" + strings.Repeat("0a", 15) + "f0"
	want := api.Digest{
		0x01, 0x23, 0x45, 0x67, 0x89, 0xab, 0xcd, 0xef, 0xfe, 0xdc, 0xba, 0x98, 0x76, 0x54, 0x32, 0x10,
		10, 10, 10, 10, 10, 10, 10, 10, 10, 10, 10, 10, 10, 10, 10, 0xf0,
	}
	if d, ok := Read(s); !ok || d != want {
		t.Errorf("Read(%q) = %v, %t", s, d, ok)
	}
	if d, ok := Read(strings.Repeat("0", 64)); !ok || d != (api.Digest{}) {
		t.Errorf("Read of the zero digest = %v, %t", d, ok)
	}
}

func rejects(t *testing.T, s string) {
	t.Helper()
	if d, ok := Read(s); ok || d != (api.Digest{}) {
		t.Errorf("Read(%q) = %v, %t", s, d, ok)
	}
}

// P3.2: Read of digits that are too few or too many.
func TestReadLength(t *testing.T) {
	digits := strings.Repeat("5c", 100)
	for n := range len(digits) {
		if n != 64 {
			rejects(t, digits[:n])
		}
	}
	good := digits[:64]
	for _, s := range []string{good + " ", " " + good, good + "\n", "0x" + good, "0x" + good[2:], good + "\x00", good[:63] + "\u00e9"} {
		rejects(t, s)
	}
}

// P3.2: Read of every byte that is not a lower-case hexadecimal digit, at every place.
func TestReadDigits(t *testing.T) {
	const good = "b5bb9d8014a0f9b1d61e21e796d78dccdf1352f23cd32812f4850b878ae4944c"
	if _, ok := Read(good); !ok {
		t.Fatal("a digest was rejected")
	}
	for k := range len(good) {
		for b := range 256 {
			s := []byte(good)
			s[k] = byte(b)
			if !strings.ContainsRune("0123456789abcdef", rune(b)) {
				rejects(t, string(s))
			} else if d, ok := Read(string(s)); !ok || hex.EncodeToString(d[:]) != string(s) {
				t.Errorf("Read(%q) = %v, %t", s, d, ok)
			}
		}
	}
	rejects(t, strings.ToUpper(good))
	rejects(t, strings.Repeat("A", 64))
	rejects(t, strings.Repeat("g", 64))
}

// P3.2: Less for digests that differ in one byte, whatever the bytes around it are.
func TestLessInOneByte(t *testing.T) {
	for k := range len(api.Digest{}) {
		for _, around := range []byte{0, 0x7f, 0x80, 0xff} {
			var a api.Digest
			for j := range a {
				a[j] = around
			}
			for _, x := range [][2]byte{{0, 1}, {0, 0xff}, {0x0f, 0x10}, {0x7f, 0x80}, {0xfe, 0xff}} {
				low, high := a, a
				low[k], high[k] = x[0], x[1]
				if !Less(low, high) || Less(high, low) || Less(low, low) || Less(high, high) {
					t.Errorf("byte %d: %v and %v", k, x[0], x[1])
				}
			}
		}
	}
}

// P3.2: the first byte that differs decides, whatever the later ones are.
func TestLessInManyBytes(t *testing.T) {
	for k := range len(api.Digest{}) {
		var low, high api.Digest
		low[k], high[k] = 3, 4
		for j := k + 1; j < len(low); j++ {
			low[j] = 0xff
		}
		if !Less(low, high) || Less(high, low) {
			t.Errorf("byte %d decides", k)
		}
	}
	if !Less(api.Digest{1, 255}, api.Digest{2}) || Less(api.Digest{2}, api.Digest{1, 255}) {
		t.Error("the first byte decides")
	}
}

// P3.3: what has been passed stays as it is, and a result that is changed changes no later one.
func TestSharing(t *testing.T) {
	whole := strings.Repeat("0123456789abcdef", 6)
	part := whole[16:80]
	crc, d := Crc(part), Sha(part)
	if crc != crcOf(part) || d != api.Digest(sha256.Sum256([]byte(part))) {
		t.Error("bytes beyond the string were read")
	}
	form := Hex(d)
	e, ok := Read(part)
	first := e
	e[0], e[31] = 99, 98
	again, good := Read(part)
	if !ok || !good || again != first || hex.EncodeToString(again[:]) != part {
		t.Error("an earlier result of Read was changed with it")
	}
	kept := d
	d[0]++
	if Sha(part) != kept || Hex(kept) != form || Less(kept, d) == Less(d, kept) || Crc(part) != crc {
		t.Error("a result depends on what became of an earlier one")
	}
	if whole != strings.Repeat("0123456789abcdef", 6) {
		t.Error("an argument was modified")
	}
}

// patterns are changes of 32 consecutive bits of which the first is changed: single bits, pairs, runs and arbitrary ones.
func patterns(g *rand.Rand) []uint32 {
	l := []uint32{1, 0xffffffff, 0x55555555, polynomial | 1, 0x80000001}
	for k := 1; k < 32; k++ {
		l = append(l, 1|1<<k, 1<<k-1)
	}
	for range 20 {
		l = append(l, g.Uint32()|1)
	}
	return l
}

// changed xors the pattern into the bits of s from the given one on, and leaves out what lies beyond the end.
func changed(s string, from int, pattern uint32) string {
	b := []byte(s)
	for k := range 32 {
		if at := from + k; pattern>>k&1 == 1 && at < 8*len(b) {
			b[at/8] ^= 1 << (at % 8)
		}
	}
	return string(b)
}

// P3.4: a change within 32 consecutive bits, at the beginning, in the middle, at the end and anywhere else, changes the checksum.
func TestBursts(t *testing.T) {
	g := rand.New(rand.NewSource(4))
	changes := patterns(g)
	for _, s := range []string{"\x00", "ab", "abcd", strings.Repeat("\x00", 40), strings.Repeat("\xff", 5), anyString(g, 65), anyString(g, 300)} {
		want := Crc(s)
		for from := range 8 * len(s) {
			for _, p := range changes {
				if other := changed(s, from, p); other == s || Crc(other) == want {
					t.Fatalf("%q with the bits from %d on changed by %#x has the same checksum", s, from, p)
				}
			}
		}
	}
	s := long()
	want := Crc(s)
	for _, from := range []int{0, 1, 31, 8 * len(s) / 2, 8*len(s)/2 + 3, 8*len(s) - 32, 8*len(s) - 1} {
		for _, p := range []uint32{1, 0x80000001, 0xffffffff} {
			if Crc(changed(s, from, p)) == want {
				t.Errorf("the bits from %d on changed by %#x", from, p)
			}
		}
	}
}

// P3.4: different changes of the same 32 bits have different checksums too, since the strings differ within these bits only.
func TestDistinctInOneWindow(t *testing.T) {
	g := rand.New(rand.NewSource(5))
	s := anyString(g, 50)
	for _, from := range []int{0, 5, 179, 8*50 - 32} {
		seen := map[uint32]uint32{}
		for p := range uint32(1 << 14) {
			p *= 0x40003 // spread over all 32 bits, without a repetition
			c := Crc(changed(s, from, p))
			if q, ok := seen[c]; ok {
				t.Fatalf("from bit %d on, %#x and %#x have the same checksum", from, p, q)
			}
			seen[c] = p
		}
	}
}

// forged appends four bytes to s that give it the wanted checksum: it runs the steps backwards, which is possible as only an odd register gets the highest bit.
func forged(s string, want uint32) string {
	before, after := ^crcOf(s), ^want
	for range 32 {
		if after>>31 == 1 {
			after = (after^polynomial)<<1 | 1
		} else {
			after <<= 1
		}
	}
	word := before ^ after
	return s + string([]byte{byte(word), byte(word >> 8), byte(word >> 16), byte(word >> 24)})
}

// P3.4: strings with equal checksums, of equal lengths or not, keep them equal when the same bytes are appended.
func TestAppending(t *testing.T) {
	g := rand.New(rand.NewSource(6))
	for k := range 300 {
		want := g.Uint32()
		a := forged(anyString(g, g.Intn(200)), want)
		b := forged(anyString(g, g.Intn(200)), want)
		if k%3 == 0 {
			b = forged(anyString(g, len(a)-4), want)
		}
		if a == b || Crc(a) != want || Crc(b) != want {
			t.Fatalf("%q and %q should have the checksum %#x", a, b, want)
		}
		for _, tail := range []string{"\x00", "\xff", "ab", everyByte(), anyString(g, g.Intn(100))} {
			if Crc(a+tail) != Crc(b+tail) {
				t.Fatalf("%q and %q after %q was appended", a, b, tail)
			}
		}
	}
}

func xored(a, b string) string {
	out := []byte(a)
	for k := range out {
		out[k] ^= b[k]
	}
	return string(out)
}

// P3.4: the checksum is affine: that of a xor b xor c results from those of a, b and c in the same way.
func TestAffine(t *testing.T) {
	g := rand.New(rand.NewSource(7))
	for k := range 2000 {
		n := k % 150
		a, b, c := anyString(g, n), anyString(g, n), anyString(g, n)
		if Crc(xored(xored(a, b), c)) != Crc(a)^Crc(b)^Crc(c) {
			t.Fatalf("%q, %q, %q", a, b, c)
		}
	}
}

// P3.4: Read inverts Hex, and Hex inverts Read.
func TestReadInvertsHex(t *testing.T) {
	g := rand.New(rand.NewSource(8))
	l := digests()
	for range 2000 {
		l = append(l, api.Digest([]byte(anyString(g, 32))))
	}
	for _, d := range l {
		e, ok := Read(Hex(d))
		if !ok || e != d || Hex(e) != Hex(d) {
			t.Fatalf("Read(%q) = %v, %t", Hex(d), e, ok)
		}
	}
}

// P3.4: Less is a strict total order and agrees with the order of the forms, and with that of the bytes.
func TestLessOrder(t *testing.T) {
	g := rand.New(rand.NewSource(9))
	l := []api.Digest{{}, {31: 1}, {31: 0xff}, {0: 1}, {0: 0xff}, {0: 0x80}, {0: 0x7f}, {15: 9}, {15: 10}, {0: 1, 31: 1}}
	for range 20 {
		d := api.Digest([]byte(anyString(g, 32)))
		e := d
		e[g.Intn(32)] ^= byte(1 + g.Intn(255))
		l = append(l, d, e)
	}
	for _, a := range l {
		for _, b := range l {
			want := bytes.Compare(a[:], b[:]) < 0
			if Less(a, b) != want || want != (Hex(a) < Hex(b)) {
				t.Errorf("Less(%s, %s) = %t", Hex(a), Hex(b), Less(a, b))
			}
			if ways := count(Less(a, b), Less(b, a), a == b); ways != 1 {
				t.Errorf("%d of less, greater and equal: %s, %s", ways, Hex(a), Hex(b))
			}
			for _, c := range l {
				if Less(a, b) && Less(b, c) && !Less(a, c) {
					t.Errorf("not transitive: %s, %s, %s", Hex(a), Hex(b), Hex(c))
				}
			}
		}
	}
	if slices.IsSortedFunc(l, order) {
		t.Fatal("the samples should be out of order")
	}
	slices.SortFunc(l, order)
	forms := make([]string, len(l))
	for k, d := range l {
		forms[k] = Hex(d)
	}
	if !slices.IsSorted(forms) {
		t.Errorf("sorted by Less: %q", forms)
	}
}

func order(a, b api.Digest) int { return count(Less(b, a)) - count(Less(a, b)) }

func count(l ...bool) int {
	n := 0
	for _, x := range l {
		if x {
			n++
		}
	}
	return n
}
