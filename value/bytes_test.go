package value_test

import (
	"math"
	"strings"
	"testing"

	"retroact/api"
	"retroact/code"
	"retroact/value"
)

// P12.3: the bytes of values, by hand.
func TestBytes(t *testing.T) {
	for b, v := range map[string]api.Value{
		"\x01\x00\x00\x00\x00\x00":                                                       unit(),
		"\x02\x00\x00\x00\x00\x00":                                                       truth(0),
		"\x02\x00\x02\x00\x00\x00":                                                       truth(1),
		"\x03\x00\x01\x00\x00\x00":                                                       integer(-1),
		"\x03\x00\x80\x01\x00\x00\x00":                                                   integer(64),
		"\x03\x00\x80\x80\x80\x80\x80\x80\x80\x20\x00\x00\x00":                           integer(api.MaxNum),
		"\x03\x00\xff\xff\xff\xff\xff\xff\xff\x1f\x00\x00\x00":                           integer(-api.MaxNum),
		"\x04\x00\x00\x00\x03a\x00\xff\x00":                                              text("a\x00\xff"),
		"\x04\x00\x00\x00\x80\x01" + strings.Repeat("z", 128) + "\x00":                   text(strings.Repeat("z", 128)),
		"\x05\x00\x00\x00\x00\x00":                                                       list(),
		"\x05\x00\x00\x00\x00\x02\x03\x00\x04\x00\x00\x00\x01\x00\x00\x00\x00\x00":       list(integer(2), unit()),
		"\x05\x00\x00\x00\x00\x01\x05\x00\x00\x00\x00\x01\x05\x00\x00\x00\x00\x00":       list(list(list())),
		"\x06\x01P\x00\x00\x00\x00":                                                      record("P"),
		"\x06\x03A_9\x00\x00\x00\x01\x02\x00\x02\x00\x00\x00":                            record("A_9", truth(1)),
		"\x07\x01V\x04\x00\x00\x00":                                                      variant("V", 2),
		"\x07\x01V\x80\x40\x00\x00\x01\x01\x00\x00\x00\x00\x00":                          variant("V", 4096, unit()),
		"\x08\x04Main\x00\x00\x030.1\x00":                                                reference("Main", "0.1"),
		"\x09\x00\x06\x00\x00\x00":                                                       closure(3),
		"\x09\x00\x00\x00\x00\x01\x0a\x00\x01\x02\x00\x00":                               closure(0, span(-1, 1)),
		"\x0a\x00\x13\x0d\x00\x00":                                                       span(-10, -7),
		"\x05\x00\x00\x00\x00\x80\x01" + strings.Repeat("\x01\x00\x00\x00\x00\x00", 128): list(many(128, unit())...),
	} {
		if got := value.Bytes(v); got != b {
			t.Errorf("%s: the bytes %q, want %q", shortened(v), got, b)
		}
		reads(t, b, true, v, 0)
		reads(t, b+b, true, v, len(b))
	}
}

// P12.3, P12.6: what Bytes returns is read again, whatever follows, and no prefix of it is.
func TestPrefixesOfBytes(t *testing.T) {
	for _, v := range valids() {
		b := value.Bytes(v)
		if len(b) > 3000 {
			continue
		}
		for k := range len(b) {
			reads(t, b[:k], false, api.Value{}, 0)
			reads(t, b+b[:k], true, v, k)
		}
		for c := range 256 {
			reads(t, b+string([]byte{byte(c)}), true, v, 1)
		}
	}
}

// P12.3, P12.6: several values are read from one reader, in order and between other data.
func TestSequence(t *testing.T) {
	l := valids()
	var all strings.Builder
	for k, v := range l {
		all.WriteString(value.Bytes(v) + code.Num(k) + code.Text("x"))
	}
	r := code.Open(all.String() + "rest")
	for k, v := range l {
		got, ok := value.Read(r)
		if !ok || !equal(got, v) || r.Num() != k || r.Text() != "x" {
			t.Fatalf("%d: read as %s, %v; want %s", k, shortened(got), ok, shortened(v))
		}
	}
	if r.Take(4) != "rest" || !r.Done() {
		t.Error("too much was read")
	}
}

// P12.3: a value is read at the place that the reader has reached, and an error before it stays.
func TestReadLater(t *testing.T) {
	b := value.Bytes(list(integer(1), text("a")))
	r := code.Open("skip" + b + "r")
	r.Take(4)
	if v, ok := value.Read(r); !ok || !equal(v, list(integer(1), text("a"))) || r.Left() != 1 || r.Done() {
		t.Error("not read behind other bytes")
	}
	if v, ok := value.Read(r); ok || !equal(v, api.Value{}) || r.Left() != 0 || r.Done() {
		t.Error("read out of one byte")
	}
	failed := code.Open(b)
	failed.Take(-1)
	for range 2 {
		if v, ok := value.Read(failed); ok || !equal(v, api.Value{}) || failed.Left() != 0 || failed.Done() {
			t.Error("read behind an error")
		}
	}
	for _, s := range []string{"", b} {
		empty := code.Open(s)
		empty.Take(len(s))
		if v, ok := value.Read(empty); ok || !equal(v, api.Value{}) || empty.Done() {
			t.Error("read at the end")
		}
	}
}

// unread checks that some bytes, which may be followed by others, are those of no value, alone and as the element of a list.
func unread(t *testing.T, b string) {
	t.Helper()
	for _, s := range []string{b, b + "\x00\x00\x00\x00\x00\x00", "\x05\x00\x00\x00\x00\x01" + b, "\x06\x01P\x00\x00\x00\x02\x01\x00\x00\x00\x00\x00" + b} {
		reads(t, s, false, api.Value{}, 0)
	}
}

// P12.3: a number of a value that has a superfluous digit, too many digits, or a value out of range.
func TestOtherNumbers(t *testing.T) {
	zero, many := "\x80\x00", strings.Repeat("\x80", 9)+"\x01"
	for _, wrong := range []string{zero, "\x80\x80\x00", "\xff\x80\x00", many, strings.Repeat("\xff", 9) + "\x7f", strings.Repeat("\xff", 8) + "\x7f", strings.Repeat("\xff", 20)} {
		unread(t, wrong+"\x00\x00\x00\x00\x00")
		unread(t, "\x01"+wrong+"\x00\x00\x00\x00")
		unread(t, "\x01\x00"+wrong+"\x00\x00\x00")
		unread(t, "\x01\x00\x00"+wrong+"\x00\x00")
		unread(t, "\x01\x00\x00\x00"+wrong+"\x00")
		unread(t, "\x01\x00\x00\x00\x00"+wrong)
		unread(t, "\x03\x00"+wrong+"\x00\x00\x00")
		unread(t, "\x04\x00\x00\x00"+wrong+"a\x00")
		unread(t, "\x05\x00\x00\x00\x00"+wrong+"\x01\x00\x00\x00\x00\x00")
		unread(t, "\x06"+wrong+"P\x00\x00\x00\x00")
		unread(t, "\x0a\x00\x01"+wrong+"\x00\x00")
	}
	// Other digits for the numbers 1, 2, 3 and 5.
	unread(t, "\x81\x00\x00\x00\x00\x00\x00")
	unread(t, "\x83\x00\x00\x02\x00\x00\x00")
	unread(t, "\x03\x00\x82\x00\x00\x00\x00")
	unread(t, "\x04\x00\x00\x00\x81\x00a\x00")
	unread(t, "\x05\x00\x00\x00\x00\x81\x00\x01\x00\x00\x00\x00\x00")
	unread(t, "\x06\x81\x00P\x00\x00\x00\x00")
}

// P12.3: lengths of strings and numbers of elements beyond the unread bytes.
func TestCounts(t *testing.T) {
	for _, n := range []int{2, 3, 100, 1 << 20, 1 << 32, 1 << 53, 1 << 62, math.MaxInt - 10, math.MaxInt} {
		unread(t, "\x05\x00\x00\x00\x00"+code.Num(n)+"\x01\x00\x00\x00\x00\x00")
		reads(t, "\x05\x00\x00\x00\x00"+code.Num(n), false, api.Value{}, 0)
		reads(t, "\x04\x00\x00\x00"+code.Num(n)+"\x00", false, api.Value{}, 0)
	}
	for _, n := range []int{6, 7, 100, 1 << 32, math.MaxInt} {
		reads(t, "\x06"+code.Num(n)+"P\x00\x00\x00\x00", false, api.Value{}, 0)
		reads(t, "\x08\x01A\x00\x00"+code.Num(n)+"0\x00", false, api.Value{}, 0)
	}
	// As many elements as a count says, and fewer, with large counts.
	element := "\x01\x00\x00\x00\x00\x00"
	for _, n := range []int{api.MaxList, api.MaxValue - 1} {
		b := "\x06\x01P\x00\x00\x00" + code.Num(n)
		reads(t, b+strings.Repeat(element, n), true, record("P", many(n, unit())...), 0)
		reads(t, b+strings.Repeat(element, n+1), true, record("P", many(n, unit())...), len(element))
		reads(t, b+strings.Repeat(element, n-1), false, api.Value{}, 0)
		reads(t, b+strings.Repeat(element, n-1)+element[1:], false, api.Value{}, 0)
	}
	for _, n := range []int{api.MaxValue, 1 << 17, 1 << 40, math.MaxInt} {
		reads(t, "\x06\x01P\x00\x00\x00"+code.Num(n)+strings.Repeat(element, 1<<17), false, api.Value{}, 0)
	}
}

// P12.3: each form with each field broken is not read.
func TestInvalidBytes(t *testing.T) {
	for _, v := range small() {
		for _, change := range []func(v *api.Value){
			func(v *api.Value) { v.Kind = 0 }, func(v *api.Value) { v.Kind = 11 }, func(v *api.Value) { v.Kind = math.MaxInt },
			func(v *api.Value) { v.T += "\x00" }, func(v *api.Value) { v.T = "p" }, func(v *api.Value) { v.T = "" }, func(v *api.Value) { v.T = "P" },
			func(v *api.Value) { v.N++ }, func(v *api.Value) { v.N-- }, func(v *api.Value) { v.N = 2 }, func(v *api.Value) { v.N = api.MaxNum }, func(v *api.Value) { v.N = api.MaxNum + 1 }, func(v *api.Value) { v.N = -api.MaxNum - 1 }, func(v *api.Value) { v.N = 1 << 60 },
			func(v *api.Value) { v.M++ }, func(v *api.Value) { v.M = -1 }, func(v *api.Value) { v.M = api.MaxNum }, func(v *api.Value) { v.M = api.MaxNum + 1 }, func(v *api.Value) { v.M = -1 << 60 },
			func(v *api.Value) { v.S += "." }, func(v *api.Value) { v.S = "0" }, func(v *api.Value) { v.S = "" }, func(v *api.Value) { v.S = strings.Repeat("x", api.MaxText+1) },
			func(v *api.Value) { v.L = append(v.L, unit()) }, func(v *api.Value) { v.L = append(v.L, api.Value{}) }, func(v *api.Value) { v.L = nil },
		} {
			other := copied(v)
			change(&other)
			agree(t, other)
			agree(t, list(unit(), other))
		}
	}
}

// P12.3, P12.6: bytes in which one byte is another one, removed or doubled.
func TestNearBytes(t *testing.T) {
	count := 0
	check := func(s string) {
		want, size, ok := modelRead(s)
		reads(t, s, ok, want, len(s)-size)
		if ok {
			count++
		}
	}
	for _, v := range valids() {
		b := value.Bytes(v)
		if len(b) > 100 {
			continue
		}
		for k := range len(b) {
			check(b[:k] + b[k+1:])
			check(b[:k] + b[k:k+1] + b[k:] + b)
			for c := range 256 {
				check(b[:k] + string([]byte{byte(c)}) + b[k+1:])
				check(b[:k] + string([]byte{byte(c)}) + b[k:])
			}
		}
	}
	if count < 5000 {
		t.Error("only", count, "values")
	}
}

// P12.3, P12.6: all short sequences of the bytes that matter, as a value or as the element of one.
func TestShortBytes(t *testing.T) {
	for _, x := range []struct {
		before, alphabet string
		size             int
	}{{"", "\x00\x01\x05", 9}, {"", "\x00\x01\x02\x06P", 7}, {"\x05\x00\x00\x00\x00\x02\x01\x00\x00\x00\x00\x00", "\x00\x01\x02\x03\x80", 6}, {"\x08\x01A\x00\x00", "\x00\x010\x03.", 6}, {"\x0a\x00", "\x00\x01\x02\x03\x80", 6}} {
		count := 0
		short(x.alphabet, x.size, func(s string) {
			s = x.before + s
			want, size, ok := modelRead(s)
			reads(t, s, ok, want, len(s)-size)
			if ok {
				count++
			}
		})
		if count < 5 {
			t.Errorf("only %d values out of %q", count, x.alphabet)
		}
	}
}

// P1, P12.3: nested bytes are read up to the limit of nodes, and deeper ones end without a panic.
func TestDeepBytes(t *testing.T) {
	within := "\x05\x00\x00\x00\x00\x01"
	end := "\x05\x00\x00\x00\x00\x00"
	reads(t, strings.Repeat(within, api.MaxValue-1)+end+"rest", true, chain(api.MaxValue, list()), 4)
	reads(t, strings.Repeat(within, api.MaxValue)+end, false, api.Value{}, 0)
	reads(t, strings.Repeat(within, 1<<22), false, api.Value{}, 0)
	reads(t, strings.Repeat("\x05\x00\x00\x00\x00\x02"+end, 1<<21), false, api.Value{}, 0)
	reads(t, strings.Repeat("\x05\x00\x00\x00\x00\x02"+end, api.MaxValue/2)+end, false, api.Value{}, 0)
	reads(t, strings.Repeat("\x05\x00\x00\x00\x00\x02"+end, api.MaxValue/2-1)+end, true, comb(api.MaxValue/2-1), 0)
}

// comb returns a list within a list and so on, each but the innermost of which has an empty list before the other one.
func comb(depth int) api.Value {
	v := list()
	for range depth {
		v = list(list(), v)
	}
	return v
}
