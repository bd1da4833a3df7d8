package code

import (
	"encoding/binary"
	"math"
	"math/big"
	"math/rand"
	"slices"
	"strings"
	"testing"
)

// numbers are the integers around each power of two, up to the least and the greatest int.
func numbers() []int {
	l := []int{math.MinInt, math.MinInt + 1, math.MaxInt, math.MaxInt - 1}
	for k := range 63 {
		for d := -2; d <= 2; d++ {
			l = append(l, 1<<k+d, -1<<k+d)
		}
	}
	return l
}

func inInt(n int) bool { return -1<<60 <= n && n <= 1<<60 }

// varint, numOf and intOf are the definitions of the chapter in exact arithmetic, apart from the code under test.
func varint(n *big.Int) string {
	var digits []byte
	for base := big.NewInt(128); ; {
		rest, digit := new(big.Int).DivMod(n, base, new(big.Int))
		digits = append(digits, byte(digit.Int64()))
		if rest.Sign() == 0 {
			break
		}
		n = rest
	}
	for k := range len(digits) - 1 {
		digits[k] |= 0x80
	}
	return string(digits)
}

func numOf(n int) string {
	if n < 0 {
		return ""
	}
	return varint(big.NewInt(int64(n)))
}

func intOf(n int) string {
	if !inInt(n) {
		return ""
	}
	z := new(big.Int).Mul(big.NewInt(2), big.NewInt(int64(n)))
	if n < 0 {
		z.Neg(z).Sub(z, big.NewInt(1))
	}
	return varint(z)
}

func textOf(s string) string { return numOf(len(s)) + s }

func listOf(l []string) string {
	s := numOf(len(l))
	for _, x := range l {
		s += textOf(x)
	}
	return s
}

func numsOf(l []int) string {
	s := numOf(len(l))
	for _, x := range l {
		s += intOf(x)
	}
	return s
}

func same(t *testing.T, what, got, want string) {
	t.Helper()
	if got != want {
		t.Errorf("%s = %q, want %q", what, got, want)
	}
}

// P2.1: the encoding of single integers, also of negative ones and beyond the range of Int.
func TestEncodeIntegers(t *testing.T) {
	for _, n := range numbers() {
		if got, want := Num(n), numOf(n); got != want {
			t.Errorf("Num(%d) = %q, want %q", n, got, want)
		}
		if got, want := Int(n), intOf(n); got != want {
			t.Errorf("Int(%d) = %q, want %q", n, got, want)
		}
		if n >= 0 && Num(n) != string(binary.AppendUvarint(nil, uint64(n))) {
			t.Errorf("Num(%d) is not its varint", n)
		}
		if inInt(n) && Int(n) != string(binary.AppendVarint(nil, int64(n))) {
			t.Errorf("Int(%d) is not its zigzag varint", n)
		}
	}
	same(t, "Num(0)", Num(0), "\x00")
	same(t, "Num(127)", Num(127), "\x7f")
	same(t, "Num(128)", Num(128), "\x80\x01")
	same(t, "Num(300)", Num(300), "\xac\x02")
	same(t, "Num(MaxInt)", Num(math.MaxInt), strings.Repeat("\xff", 8)+"\x7f")
	same(t, "Num(-1)", Num(-1), "")
	same(t, "Num(MinInt)", Num(math.MinInt), "")
	same(t, "Int(-2)", Int(-2), "\x03")
	same(t, "Int(-1)", Int(-1), "\x01")
	same(t, "Int(1)", Int(1), "\x02")
	same(t, "Int(2^60)", Int(1<<60), strings.Repeat("\x80", 8)+"\x20")
	same(t, "Int(-2^60)", Int(-1<<60), strings.Repeat("\xff", 8)+"\x1f")
	same(t, "Int(2^60+1)", Int(1<<60+1), "")
	same(t, "Int(-2^60-1)", Int(-1<<60-1), "")
	same(t, "Int(MaxInt)", Int(math.MaxInt), "")
	same(t, "Int(MinInt)", Int(math.MinInt), "")
}

// P2.1: the encoding of strings and lists, empty ones and elements out of range among them.
func TestEncodeStringsAndLists(t *testing.T) {
	long := strings.Repeat("xyz", 100)
	for _, s := range []string{"", "ab", "\x00", "\xff\xfe", "grün", long[:127], long[:128], long} {
		same(t, "Text", Text(s), textOf(s))
	}
	same(t, "Text", Text("ab"), "\x02ab")
	same(t, "Text", Text(""), "\x00")
	for _, l := range [][]string{nil, {}, {""}, {"", ""}, {"a", "", "bc"}, {long, "\x00", long}, make([]string, 300)} {
		same(t, "List", List(l), listOf(l))
	}
	same(t, "List", List(nil), "\x00")
	same(t, "List", List([]string{"", "c"}), "\x02\x00\x01c")
	for _, l := range [][]int{nil, {}, {0}, {-1, 300, 1 << 60, -1 << 60}, {1<<60 + 1}, {7, -1<<60 - 1, 8}, numbers(), make([]int, 300)} {
		same(t, "Nums", Nums(l), numsOf(l))
	}
	same(t, "Nums", Nums(nil), "\x00")
	same(t, "Nums", Nums([]int{7, -1, 1 << 61}), "\x03\x0e\x01")
	same(t, "Nums", Nums([]int{math.MinInt, math.MaxInt}), "\x02")
}

// failed expects that the error flag is set, and that whatever is read on yields nothing and leaves it set.
func failed(t *testing.T, what string, r *Reader) {
	t.Helper()
	if r.Left() != 0 || r.Done() {
		t.Errorf("%s: %d bytes left, done %t", what, r.Left(), r.Done())
	}
	if r.Num() != 0 || r.Int() != 0 || r.Take(0) != "" || r.Take(1) != "" || r.Take(-1) != "" || r.Text() != "" || r.List() != nil || r.Nums() != nil {
		t.Errorf("%s: read on after an error", what)
	}
	if r.Left() != 0 || r.Done() {
		t.Errorf("%s: the error flag was cleared", what)
	}
}

// P2.2: varints of one to nine bytes, consumed exactly.
func TestDecodeNum(t *testing.T) {
	for _, n := range numbers() {
		if n < 0 {
			continue
		}
		for _, rest := range []string{"", "\x00", "\x01", "\x80", "\xff\xff", "abc"} {
			r := Open(numOf(n) + rest)
			if got := r.Num(); got != n || r.Left() != len(rest) || r.Done() != (rest == "") {
				t.Errorf("Num() = %d, want %d; %d bytes left before %q", got, n, r.Left(), rest)
			}
		}
	}
	if r := Open(strings.Repeat("\xff", 8) + "\x7f"); r.Num() != math.MaxInt || !r.Done() {
		t.Error("the greatest varint of nine bytes")
	}
	if r := Open("\x00\x00"); r.Num() != 0 || r.Num() != 0 || !r.Done() {
		t.Error("the varint of 0 has one digit")
	}
}

// P2.2: no varint at the start of the unread input.
func TestInvalidNum(t *testing.T) {
	for _, s := range []string{
		"", "\x80", "\xff", "\x80\x80", strings.Repeat("\x80", 8), strings.Repeat("\xff", 9), strings.Repeat("\xff", 20),
		"\x80\x00", "\xff\x00", "\x80\x00abc", "\x80\x80\x00", strings.Repeat("\x80", 8) + "\x00", strings.Repeat("\xff", 8) + "\x00",
		strings.Repeat("\x80", 9) + "\x01", strings.Repeat("\xff", 9) + "\x01", strings.Repeat("\xff", 9) + "\x00", strings.Repeat("\x81", 9) + "\x7fabc",
		strings.Repeat("\x80", 10) + "\x01",
	} {
		r := Open(s)
		if got := r.Num(); got != 0 {
			t.Errorf("Num() of %q = %d", s, got)
		}
		failed(t, "Num", r)
		r = Open("\x05" + s)
		if r.Num() != 5 || r.Num() != 0 {
			t.Errorf("Num() of %q after a 5", s)
		}
		failed(t, "second Num", r)
		r = Open(s)
		if got := r.Int(); got != 0 {
			t.Errorf("Int() of %q = %d", s, got)
		}
		failed(t, "Int", r)
	}
}

// P2.2: Int within its range and beyond it, where only the varint is valid.
func TestDecodeInt(t *testing.T) {
	for _, n := range numbers() {
		if !inInt(n) {
			continue
		}
		r := Open(intOf(n) + "\x80")
		if got := r.Int(); got != n || r.Left() != 1 {
			t.Errorf("Int() = %d, want %d", got, n)
		}
	}
	for _, n := range []int{1<<61 + 1, 1<<61 + 2, 1<<62 - 1, 1 << 62, math.MaxInt - 1, math.MaxInt} {
		r := Open(numOf(n) + "\x02")
		if got := r.Int(); got != 0 {
			t.Errorf("Int() of zigzag number %d = %d", n, got)
		}
		failed(t, "Int out of range", r)
	}
}

// P2.2 and P2.4: Take, Left and Done.
func TestTake(t *testing.T) {
	r := Open("abcd")
	if r.Left() != 4 || r.Done() {
		t.Error("before reading")
	}
	if r.Take(0) != "" || r.Left() != 4 || r.Done() {
		t.Error("Take(0) consumes nothing and is no error")
	}
	if r.Take(1) != "a" || r.Left() != 3 || r.Take(3) != "bcd" || r.Left() != 0 || !r.Done() {
		t.Error("Take of what is there")
	}
	if r.Take(0) != "" || !r.Done() {
		t.Error("Take(0) at the end is no error")
	}
	for _, n := range []int{-1, 3, 4, math.MinInt, math.MaxInt} {
		r := Open("ab")
		if got := r.Take(n); got != "" {
			t.Errorf("Take(%d) = %q", n, got)
		}
		failed(t, "Take", r)
	}
	r = Open("")
	if r.Left() != 0 || !r.Done() || r.Take(0) != "" || !r.Done() {
		t.Error("an empty input is read to its end")
	}
	if r.Take(1) != "" {
		t.Error("Take(1) of nothing")
	}
	failed(t, "Take(1)", r)
}

// P2.3: strings, and strings whose length is wrong.
func TestDecodeText(t *testing.T) {
	r := Open("\x02ab\x00\x01c")
	if r.Text() != "ab" || r.Left() != 3 || r.Text() != "" || r.Left() != 2 || r.Text() != "c" || !r.Done() {
		t.Error("three strings")
	}
	for _, s := range []string{"", "\x01", "\x03ab", "\x80", "\x80\x00ab", numOf(math.MaxInt) + "ab"} {
		r := Open(s)
		if got := r.Text(); got != "" {
			t.Errorf("Text() of %q = %q", s, got)
		}
		failed(t, "Text", r)
	}
}

// P2.3: lists, a count of exactly the unread bytes, and one beyond them.
func TestDecodeLists(t *testing.T) {
	r := Open("\x03\x01a\x00\x02bc\x00\x02\x00\x00\x7f")
	if l := r.List(); !slices.Equal(l, []string{"a", "", "bc"}) {
		t.Errorf("List() = %q", l)
	}
	if l := r.List(); len(l) != 0 || r.Left() != 4 {
		t.Errorf("List() = %q", l)
	}
	if l := r.List(); !slices.Equal(l, []string{"", ""}) || r.Left() != 1 || r.Take(1) != "\x7f" || !r.Done() {
		t.Errorf("List() = %q", l)
	}
	r = Open("\x03\x0e\x01\x80\x01\x00\x02\x00\x03\x7f")
	if l := r.Nums(); !slices.Equal(l, []int{7, -1, 64}) {
		t.Errorf("Nums() = %d", l)
	}
	if l := r.Nums(); len(l) != 0 || r.Left() != 4 {
		t.Errorf("Nums() = %d", l)
	}
	if l := r.Nums(); !slices.Equal(l, []int{0, -2}) || r.Left() != 1 || r.Take(1) != "\x7f" || !r.Done() {
		t.Errorf("Nums() = %d", l)
	}
}

// P2.3: a count without a list, a count that exceeds the unread bytes, and lists with an invalid element.
func TestInvalidLists(t *testing.T) {
	for _, s := range []string{"", "\x80", "\x80\x00", "\x01", "\x03\x00\x00", "\x05\x00\x00", numOf(math.MaxInt), numOf(math.MaxInt) + "\x00\x00", "\x02\x80\x00\x00", "\x03\x00\x00\x80"} {
		r := Open(s)
		if l := r.List(); l != nil {
			t.Errorf("List() of %q = %q", s, l)
		}
		failed(t, "List", r)
		r = Open(s)
		if l := r.Nums(); l != nil {
			t.Errorf("Nums() of %q = %d", s, l)
		}
		failed(t, "Nums", r)
	}
	for _, s := range []string{"\x02\x01a", "\x02\x05ab", "\x01\x03ab", "\x03\x00\x00\x01"} {
		r := Open(s)
		if l := r.List(); l != nil {
			t.Errorf("List() of %q = %q", s, l)
		}
		failed(t, "List", r)
	}
	for _, s := range []string{"\x02\x01\x80", "\x02\x00" + numOf(1<<61+1), "\x01" + numOf(math.MaxInt) + "\x00"} {
		r := Open(s)
		if l := r.Nums(); l != nil {
			t.Errorf("Nums() of %q = %d", s, l)
		}
		failed(t, "Nums", r)
	}
	for _, x := range [][]int{{1 << 61}, {1, -1 << 62}} {
		r := Open(Nums(x))
		if l := r.Nums(); l != nil {
			t.Errorf("Nums() = %d where an element had no encoding", l)
		}
		failed(t, "Nums", r)
	}
}

// P2.3: a count that the input cannot hold costs no memory, and fails before any element is read.
func TestHugeCounts(t *testing.T) {
	s := numOf(1<<20) + strings.Repeat("\x00", 1<<20-1)
	if Open(s).List() != nil || Open(s).Nums() != nil {
		t.Error("the count exceeds the unread bytes by one")
	}
	if len(Open(s+"\x00").List()) != 1<<20 || len(Open(s+"\x00").Nums()) != 1<<20 {
		t.Error("the count equals the unread bytes")
	}
	if n := testing.AllocsPerRun(10, func() { Open(s).Nums() }); n > 10 {
		t.Errorf("%v allocations for a list with too great a count", n)
	}
	late := numOf(1<<20) + "\x80\x00" + strings.Repeat("\x00", 1<<20)
	if n := testing.AllocsPerRun(10, func() { Open(late).Nums() }); n > 10 {
		t.Errorf("%v allocations for a list whose first element is invalid", n)
	}
}

// P2.5: arguments stay as they are, slices are read only up to their length, and results are memory of their own.
func TestSharing(t *testing.T) {
	strs, ints := []string{"a", "b", "beyond"}, []int{1, 2, 77}
	list, nums := List(strs[:2]), Nums(ints[:2])
	same(t, "List", list, listOf([]string{"a", "b"}))
	same(t, "Nums", nums, numsOf([]int{1, 2}))
	if !slices.Equal(strs, []string{"a", "b", "beyond"}) || !slices.Equal(ints, []int{1, 2, 77}) {
		t.Error("an argument was modified")
	}
	strs[0], ints[0] = "changed", 99
	same(t, "List", list, listOf([]string{"a", "b"}))
	same(t, "Nums", nums, numsOf([]int{1, 2}))

	r := Open(list + list + nums + nums)
	first := r.List()
	first[0] = "changed"
	_ = append(first, "more")
	if second := r.List(); !slices.Equal(second, []string{"a", "b"}) {
		t.Errorf("List() = %q after an earlier result was changed", second)
	}
	before := r.Nums()
	before[0] = 99
	_ = append(before, 98)
	if second := r.Nums(); !slices.Equal(second, []int{1, 2}) || !slices.Equal(before, []int{99, 2}) || !r.Done() {
		t.Errorf("Nums() = %d after an earlier result was changed", second)
	}
}

// P2.5: two Readers over one string do not disturb each other.
func TestReadersAreIndependent(t *testing.T) {
	s := Num(300) + Text("ab")
	a, b := Open(s), Open(s)
	if a.Num() != 300 || b.Left() != len(s) || b.Take(-1) != "" || a.Text() != "ab" || !a.Done() || b.Done() {
		t.Error("two Readers share their state")
	}
}

// item is a value with its encoding and the test that the next value of a Reader is this one.
type item struct {
	bytes string
	reads func(r *Reader) bool
}

func anyText(g *rand.Rand) string {
	b := make([]byte, g.Intn(4)*g.Intn(60))
	g.Read(b)
	return string(b)
}

func anyInt(g *rand.Rand) int {
	n := g.Intn(1<<60+1) >> g.Intn(61)
	if g.Intn(2) == 0 {
		return -n
	}
	return n
}

func anyItem(g *rand.Rand) item {
	switch g.Intn(5) {
	case 0:
		n := g.Int() >> g.Intn(63)
		return item{Num(n), func(r *Reader) bool { return r.Num() == n }}
	case 1:
		n := anyInt(g)
		return item{Int(n), func(r *Reader) bool { return r.Int() == n }}
	case 2:
		s := anyText(g)
		return item{Text(s), func(r *Reader) bool { return r.Text() == s }}
	case 3:
		l := make([]string, g.Intn(6))
		for k := range l {
			l[k] = anyText(g)
		}
		return item{List(l), func(r *Reader) bool { return slices.Equal(r.List(), l) }}
	}
	l := make([]int, g.Intn(200))
	for k := range l {
		l[k] = anyInt(g)
	}
	return item{Nums(l), func(r *Reader) bool { return slices.Equal(r.Nums(), l) }}
}

// P2.6: decoding inverts the encoding of a sequence of values, whatever bytes follow.
func TestDecodingInvertsEncoding(t *testing.T) {
	g := rand.New(rand.NewSource(2))
	for range 2000 {
		var items []item
		var s strings.Builder
		for range g.Intn(8) {
			x := anyItem(g)
			items = append(items, x)
			s.WriteString(x.bytes)
		}
		tail := anyText(g)
		r := Open(s.String() + tail)
		for k, x := range items {
			if !x.reads(r) {
				t.Fatalf("item %d, %q, of %q", k, x.bytes, s.String())
			}
		}
		if r.Left() != len(tail) || r.Done() != (tail == "") || r.Take(len(tail)) != tail || !r.Done() {
			t.Fatalf("%q was not left after %q", tail, s.String())
		}
	}
}

// inputs calls f with all strings of at most the given length over bytes at which varints, counts and lengths begin, end or fail.
func inputs(length int, f func(s string)) {
	f("")
	if length == 0 {
		return
	}
	for _, c := range []byte{0, 1, 2, 3, 127, 128, 255} {
		inputs(length-1, func(s string) { f(string([]byte{c}) + s) })
	}
}

// reencodes expects that a read either fails or consumed exactly the encoding of what it returned.
func reencodes(t *testing.T, what, s string, read func(r *Reader) string) {
	t.Helper()
	r := Open(s)
	again := read(r)
	if !r.Done() && r.Left() == 0 {
		return
	}
	if used := s[:len(s)-r.Left()]; again != used {
		t.Fatalf("%s: %q is read as the value that has the encoding %q", what, used, again)
	}
}

// P2.6: re-encoding what was decoded reproduces the bytes, so that no value has a second encoding.
func TestEncodingInvertsDecoding(t *testing.T) {
	inputs(6, func(s string) {
		reencodes(t, "Num", s, func(r *Reader) string { return Num(r.Num()) })
		reencodes(t, "Int", s, func(r *Reader) string { return Int(r.Int()) })
		reencodes(t, "Text", s, func(r *Reader) string { return Text(r.Text()) })
		reencodes(t, "List", s, func(r *Reader) string { return List(r.List()) })
		reencodes(t, "Nums", s, func(r *Reader) string { return Nums(r.Nums()) })
	})
}

// P2.6: of two encodings of different values of one kind, neither begins with the other.
func TestPrefixFree(t *testing.T) {
	var nums, ints, texts, lists, seqs []string
	for _, n := range []int{0, 1, 127, 128, 300, 16384, math.MaxInt} {
		nums = append(nums, Num(n))
	}
	for _, n := range []int{0, -1, 1, 63, -64, 64, -65, 1 << 60, -1 << 60} {
		ints = append(ints, Int(n))
	}
	for _, s := range []string{"", "a", "ab", "b", "\x00", "\x01a"} {
		texts = append(texts, Text(s))
	}
	for _, l := range [][]string{nil, {""}, {"", ""}, {"a"}, {"a", ""}, {"\x00"}} {
		lists = append(lists, List(l))
	}
	for _, l := range [][]int{nil, {0}, {0, 0}, {1}, {1, 0}, {64}} {
		seqs = append(seqs, Nums(l))
	}
	for _, l := range [][]string{nums, ints, texts, lists, seqs} {
		for i, a := range l {
			for j, b := range l {
				if i != j && strings.HasPrefix(b, a) {
					t.Errorf("%q begins with %q", b, a)
				}
			}
		}
	}
}
