package wal

import (
	"encoding/binary"
	"fmt"
	"hash/crc32"
	"math"
	"math/rand"
	"slices"
	"strings"
	"testing"

	"retroact/api"
	"retroact/disk"
	"retroact/press"
)

const (
	mostPayload = 1 << 20
	mostFile    = 1 << 24
)

// crcOf is the checksum in a record.
func crcOf(p string) string {
	return string(binary.LittleEndian.AppendUint32(nil, crc32.Checksum([]byte(p), crc32.MakeTable(crc32.Castagnoli))))
}

func numOf(n uint64) string { return string(binary.AppendUvarint(nil, n)) }

// framed is a record, but of any bytes in the place of the packed ones.
func framed(p string) string { return numOf(uint64(len(p))) + crcOf(p) + p }

// recordOf is the definition of a record, apart from the code under test.
func recordOf(s string) string { return framed(press.Pack(s)) }

func logOf(rows ...string) string {
	var out strings.Builder
	for _, s := range rows {
		out.WriteString(recordOf(s))
	}
	return out.String()
}

// payloadOf is the definition of a byte sequence that is a record.
func payloadOf(b string) (string, bool) {
	n, size := binary.Uvarint([]byte(b))
	if size <= 0 || n != uint64(len(b)-size-4) {
		return "", false
	}
	s, ok := press.Unpack(b[size+4:])
	if !ok || len(s) > mostPayload || recordOf(s) != b {
		return "", false
	}
	return s, true
}

// prefixOf is the definition of the valid prefix: of all ends of concatenations of records, the last one.
func prefixOf(b string) (rows []string, length int) {
	ends := map[int][]string{0: nil}
	for j := 1; j <= len(b); j++ {
		for i, before := range ends {
			if s, ok := payloadOf(b[i:j]); ok {
				rows, length = append(slices.Clone(before), s), j
			}
		}
		if length == j {
			ends[j] = rows
		}
	}
	return rows, length
}

// state is all that the calls of a disk tell of it and of what is scheduled for its next calls.
type state struct {
	down           bool
	bytes, durable [8]string
	// lost and left are the flushes that will be lost and the calls until a crash, as far as they are few.
	lost, left int
}

func stateOf(d *disk.Disk) state {
	s := state{down: d.Down()}
	all, rest, calls, flushes := d.Copy(), d.Copy(), d.Copy(), d.Copy()
	all.Start()
	rest.Crash(nil)
	rest.Start()
	for f := range s.bytes {
		s.bytes[f], _ = all.Read(f)
		s.durable[f], _ = rest.Read(f)
	}
	calls.Start()
	for n := 1; n < 12 && s.left == 0; n++ {
		if calls.Cut(0, calls.Size(0)) == api.ErrDown {
			s.left = n
		}
	}
	flushes.Start()
	flushes.Arm(0, nil)
	for s.lost < 12 && flushes.Flush(0) == api.ErrLost {
		s.lost++
	}
	return s
}

func (s state) String() string {
	return fmt.Sprintf("down: %t, lost: %d, left: %d, files %.40q, durable %.40q", s.down, s.lost, s.left, s.bytes, s.durable)
}

// model is a log as the chapter defines it, with a disk of its own, on which it makes the calls that the chapter names.
type model struct {
	d    *disk.Disk
	f    int
	rows []string
}

// step is a call of the disk, unless it is not needed.
type step struct {
	needed bool
	do     func() api.Errno
}

func perform(steps ...step) api.Errno {
	for _, x := range steps {
		if !x.needed {
			continue
		}
		if e := x.do(); e != api.OK {
			return e
		}
	}
	return api.OK
}

// open replaces the log by one that has been opened, unless there is an error.
func (m *model) open() api.Errno {
	if m.f < 0 || m.f > 6 {
		return api.ErrArg
	}
	s, e := m.d.Read(m.f)
	if e != api.OK {
		return e
	}
	rows, n := prefixOf(s)
	e = perform(
		step{n < len(s), func() api.Errno { return m.d.Cut(m.f, n) }},
		step{m.d.Size(m.f+1) > 0, func() api.Errno { return m.d.Cut(m.f+1, 0) }},
		step{true, func() api.Errno { return m.d.Flush(m.f) }})
	if e == api.OK {
		m.rows = rows
	}
	return e
}

func (m *model) append(s string) api.Errno {
	if len(s) > mostPayload {
		return api.ErrSize
	}
	e := m.d.Append(m.f, recordOf(s))
	if e == api.OK {
		m.rows = append(m.rows, s)
	}
	return e
}

func (m *model) rewrite(rows []string) api.Errno {
	for _, s := range rows {
		if len(s) > mostPayload {
			return api.ErrSize
		}
	}
	e := perform(
		step{m.d.Size(m.f+1) > 0, func() api.Errno { return m.d.Cut(m.f+1, 0) }},
		step{true, func() api.Errno { return m.d.Append(m.f+1, logOf(rows...)) }},
		step{true, func() api.Errno { return m.d.Flush(m.f + 1) }},
		step{true, func() api.Errno { return m.d.Turn(m.f, m.f+1) }})
	if e == api.OK {
		m.rows = slices.Clone(rows)
	}
	return e
}

// pair is a log on a disk with the model that it is compared with after each call. Several pairs may have the same disks.
type pair struct {
	t    *testing.T
	d    *disk.Disk
	l    *Log
	m    *model
	said *[]string
}

func newPair(t *testing.T, f int) *pair {
	return &pair{t: t, d: disk.New(), m: &model{d: disk.New(), f: f}, said: &[]string{}}
}

// beside is a pair in another file of the same disks.
func (x *pair) beside(f int) *pair {
	return &pair{t: x.t, d: x.d, m: &model{d: x.m.d, f: f}, said: x.said}
}

// on makes a call on both disks.
func (x *pair) on(what string, do func(d *disk.Disk)) {
	x.t.Helper()
	do(x.d)
	do(x.m.d)
	x.compare(what, api.OK, api.OK)
}

// compare compares the results of a call, and all that can be told afterwards.
func (x *pair) compare(what string, got, want api.Errno) api.Errno {
	x.t.Helper()
	*x.said = append(*x.said, fmt.Sprintf("%s = %d", what, want))
	if got != want {
		x.t.Fatalf("file %d: %v: the error is %d", x.m.f, *x.said, got)
	}
	if a, b := stateOf(x.d), stateOf(x.m.d); a != b {
		x.t.Fatalf("file %d: %v: the disk is\n%v, want\n%v", x.m.f, *x.said, a, b)
	}
	if x.l != nil && (!slices.Equal(x.l.All(), x.m.rows) || x.l.Len() != len(x.m.rows)) {
		x.t.Fatalf("file %d: %v: the log is %.99q, Len %d; want %.99q", x.m.f, *x.said, x.l.All(), x.l.Len(), x.m.rows)
	}
	return want
}

func (x *pair) open() api.Errno {
	x.t.Helper()
	l, e := Open(x.d, x.m.f)
	if (l == nil) == (e == api.OK) {
		x.t.Fatalf("Open returns %v and %d", l, e)
	}
	if e == api.OK {
		x.l = l
	}
	return x.compare("Open", e, x.m.open())
}

func (x *pair) append(s string) api.Errno {
	x.t.Helper()
	return x.compare(fmt.Sprintf("Append(%.20q)", s), x.l.Append(s), x.m.append(s))
}

func (x *pair) flush() api.Errno {
	x.t.Helper()
	return x.compare("Flush", x.l.Flush(), x.m.d.Flush(x.m.f))
}

func (x *pair) rewrite(rows ...string) api.Errno {
	x.t.Helper()
	return x.compare(fmt.Sprintf("Rewrite(%.40q)", rows), x.l.Rewrite(rows), x.m.rewrite(rows))
}

func (x *pair) arm(n int, keep []int) {
	x.t.Helper()
	x.on(fmt.Sprintf("Arm(%d, %v)", n, keep), func(d *disk.Disk) { d.Arm(n, keep) })
}

func (x *pair) lose(n int) {
	x.t.Helper()
	x.on(fmt.Sprintf("Lose(%d)", n), func(d *disk.Disk) { d.Lose(n) })
}

func (x *pair) crash(keep []int) {
	x.t.Helper()
	x.on(fmt.Sprintf("Crash(%v)", keep), func(d *disk.Disk) { d.Crash(keep) })
}

// start brings the disk up. The logs on it must then be opened again.
func (x *pair) start() {
	x.t.Helper()
	x.l = nil
	x.on("Start", func(d *disk.Disk) { d.Start() })
}

// bytes appends to a file that no open log uses.
func (x *pair) bytes(f int, s string) {
	x.t.Helper()
	x.on(fmt.Sprintf("disk.Append(%d, %.20q)", f, s), func(d *disk.Disk) { d.Append(f, s) })
}

func is(t *testing.T, what string, got, want api.Errno) {
	t.Helper()
	if got != want {
		t.Errorf("%s = %d, want %d", what, got, want)
	}
}

// has requires the payloads of the log.
func has(t *testing.T, l *Log, rows ...string) {
	t.Helper()
	if got := l.All(); !slices.Equal(got, rows) || l.Len() != len(rows) {
		t.Errorf("the log is %.200q, Len %d; want %.200q", got, l.Len(), rows)
	}
}

// holds requires the bytes of the file, and those of them that are durable.
func holds(t *testing.T, d *disk.Disk, f int, bytes, durable string) {
	t.Helper()
	if s := stateOf(d); s.bytes[f] != bytes || s.durable[f] != durable {
		t.Errorf("file %d holds %.80q, durable %.80q; want %.80q, durable %.80q", f, s.bytes[f], s.durable[f], bytes, durable)
	}
}

// unchanged requires that the call changes nothing at all, neither what the disk holds nor what is scheduled for its next calls.
func unchanged(t *testing.T, d *disk.Disk, what string, do func()) {
	t.Helper()
	before := stateOf(d)
	if do(); stateOf(d) != before {
		t.Errorf("after %s the disk is\n%v, before\n%v", what, stateOf(d), before)
	}
}

func opened(t *testing.T, d *disk.Disk, f int) *Log {
	t.Helper()
	l, e := Open(d, f)
	if e != api.OK || l == nil {
		t.Fatalf("Open(%d) returns %v and %d", f, l, e)
	}
	return l
}

// filled is a disk with the bytes in a file, of which the first ones are durable.
func filled(t *testing.T, f int, bytes string, durable int) *disk.Disk {
	t.Helper()
	d := disk.New()
	is(t, "disk.Append", d.Append(f, bytes[:durable]), api.OK)
	is(t, "disk.Flush", d.Flush(f), api.OK)
	is(t, "disk.Append", d.Append(f, bytes[durable:]), api.OK)
	return d
}

// finds requires that a log in a file with the bytes has the payloads, and that Open leaves exactly their records, all of them durable.
func finds(t *testing.T, bytes string, rows ...string) {
	t.Helper()
	for _, durable := range []int{0, len(bytes)} {
		d := filled(t, 3, bytes, durable)
		has(t, opened(t, d, 3), rows...)
		holds(t, d, 3, logOf(rows...), logOf(rows...))
		if t.Failed() {
			t.Fatalf("the file was %.200q", bytes)
		}
	}
}

// noise is a string of arbitrary bytes, which Pack hardly compresses.
func noise(n int) string {
	b := make([]byte, n)
	rand.New(rand.NewSource(6)).Read(b)
	return string(b)
}

// strings of which most have something in particular: nothing, each byte, runs, text.
func samples() []string {
	var all strings.Builder
	for c := range 256 {
		all.WriteByte(byte(c))
	}
	return []string{"", "a", "\x00", "\x00\x00\x00\x00\x00\x00\x00\x00", "\xff\xfe", "hello", all.String(), strings.Repeat("ab", 500), strings.Repeat("x", 127), "", noise(127), noise(128), noise(20000), "a", logOf("a", "b")}
}

// tooLong are strings that are no payloads.
func tooLong() []string {
	return []string{strings.Repeat("x", mostPayload+1), strings.Repeat("y", 2*mostPayload), strings.Repeat("z", mostFile+1)}
}

// outside are numbers of no file with another one behind it.
func outside() []int {
	return []int{-1, 7, 8, 9, -2, -7, 255, 256, 1 << 32, -1 << 32, math.MaxInt, math.MaxInt - 1, math.MinInt}
}

// Definitions: the bytes of records by hand: the number of packed bytes, their checksum with its least significant byte first, and they themselves.
func TestRecordsByHand(t *testing.T) {
	for s, want := range map[string]string{
		"":                       "\x01\x51\x53\x7d\x52\x00",
		"a":                      "\x03" + crcOf("\x01\x02a") + "\x01\x02a",
		"aaaaaa":                 "\x05" + crcOf("\x06\x02a\x0b\x01") + "\x06\x02a\x0b\x01",
		strings.Repeat("x", 300): "\x07" + crcOf("\xac\x02\x02x\xd7\x04\x01") + "\xac\x02\x02x\xd7\x04\x01",
	} {
		d := disk.New()
		l := opened(t, d, 0)
		is(t, "Append", l.Append(s), api.OK)
		holds(t, d, 0, want, "")
		finds(t, want, s)
	}
}

// P6.1: an empty file is an empty log, in each file that has another one behind it.
func TestOpenEmpty(t *testing.T) {
	for f := range 7 {
		d := disk.New()
		l := opened(t, d, f)
		has(t, l)
		is(t, "Append", l.Append("x"), api.OK)
		is(t, "Flush", l.Flush(), api.OK)
		has(t, l, "x")
		has(t, opened(t, d, f), "x")
		for g := range 8 {
			want := ""
			if g == f {
				want = recordOf("x")
			}
			holds(t, d, g, want, want)
		}
	}
}

// P6.1: ErrArg comes first, whatever the disk; neither error changes anything.
func TestOpenInvalid(t *testing.T) {
	up, down := filled(t, 0, logOf("a")+"torn", 3), filled(t, 0, logOf("a")+"torn", 3)
	down.Crash([]int{99})
	for _, d := range []*disk.Disk{up, down} {
		d.Lose(2)
		d.Arm(3, []int{1})
	}
	fails := func(d *disk.Disk, f int, want api.Errno) {
		if l, e := Open(d, f); l != nil || e != want {
			t.Errorf("Open(%v, %d) = %v, %d; want an error %d", d != nil, f, l, e, want)
		}
	}
	for _, f := range outside() {
		fails(nil, f, api.ErrArg)
		for _, d := range []*disk.Disk{up, down} {
			unchanged(t, d, "Open with ErrArg", func() { fails(d, f, api.ErrArg) })
		}
	}
	for f := range 7 {
		fails(nil, f, api.ErrArg)
		unchanged(t, down, "Open with ErrDown", func() { fails(down, f, api.ErrDown) })
	}
}

// P6.1: the payloads come in the order of their records.
func TestOpenReads(t *testing.T) {
	all := samples()
	for n := range all {
		finds(t, logOf(all[n]), all[n])
		finds(t, logOf(all[:n]...), all[:n]...)
	}
	slices.Reverse(all)
	finds(t, logOf(all...), all...)
	finds(t, logOf(make([]string, 1000)...), make([]string, 1000)...)
}

// P6.1: a record that is cut at any of its bytes is discarded.
func TestOpenTorn(t *testing.T) {
	for _, s := range samples() {
		r := recordOf(s)
		for n := range r {
			if n < 40 || n > len(r)-10 || n%797 == 0 {
				finds(t, logOf("first", "")+r[:n], "first", "")
			}
		}
	}
}

// P6.1: bytes that are no record are discarded with all that comes behind them.
func TestOpenTrailing(t *testing.T) {
	for _, s := range []string{
		"\x00", "\x01", "\x7f", "\x80", "\xff", "a", "some text that is no record",
		"\x00\x00\x00\x00\x00", strings.Repeat("\x00", 100), strings.Repeat("\x01", 100), strings.Repeat("\xff", 100),
		recordOf("x")[1:], noise(5000),
	} {
		for _, behind := range []string{"", logOf("lost"), logOf("lost", "", "too")} {
			finds(t, s+behind)
			finds(t, logOf("kept", "")+s+behind, "kept", "")
		}
	}
}

// P6.1: whichever byte of a file is changed, removed or inserted, the records before it are kept, and no others are read than the definition allows.
func TestOpenChanged(t *testing.T) {
	rows := []string{"ab", "", "aaaaaa"}
	whole := logOf(rows...)
	ends := []int{len(logOf(rows[0])), len(logOf(rows[:2]...)), len(whole)}
	for i := range whole {
		before := 0
		for ends[before] <= i {
			before++
		}
		for c := range 256 {
			if byte(c) != whole[i] {
				finds(t, whole[:i]+string([]byte{byte(c)})+whole[i+1:], rows[:before]...)
			}
			inserted := whole[:i] + string([]byte{byte(c)}) + whole[i:]
			want, _ := prefixOf(inserted)
			finds(t, inserted, want...)
		}
		removed := whole[:i] + whole[i+1:]
		want, _ := prefixOf(removed)
		finds(t, removed, want...)
	}
}

// noRecord requires that Open takes the bytes for no record, wherever they are.
func noRecord(t *testing.T, b string) {
	t.Helper()
	if s, ok := payloadOf(b); ok {
		t.Fatalf("%.80q is a record of %.80q", b, s)
	}
	finds(t, b)
	finds(t, b+logOf("b"))
	finds(t, logOf("a")+b, "a")
	finds(t, logOf("a")+b+logOf("b", "c"), "a")
}

// P6.1: the checksum must be the one of the packed bytes, least significant byte first.
func TestOpenChecksum(t *testing.T) {
	for _, s := range []string{"", "a", "hello", strings.Repeat("ab", 100)} {
		p := press.Pack(s)
		n, c := numOf(uint64(len(p))), crcOf(p)
		wrong := []string{"\x00\x00\x00\x00", "\xff\xff\xff\xff", crcOf(s), crcOf(n + p), crcOf(p + n), crcOf(c)}
		wrong = append(wrong, string([]byte{c[3], c[2], c[1], c[0]}), string([]byte{^c[0], ^c[1], ^c[2], ^c[3]}))
		wrong = append(wrong, string(binary.LittleEndian.AppendUint32(nil, crc32.ChecksumIEEE([]byte(p)))))
		for bit := range 32 {
			b := []byte(c)
			b[bit/8] ^= 1 << (bit % 8)
			wrong = append(wrong, string(b))
		}
		for _, w := range wrong {
			if w != c {
				noRecord(t, n+w+p)
			}
		}
		finds(t, n+c+p, s)
	}
}

// P6.1: the length must be the one of the packed bytes, and its number must be canonical.
func TestOpenLength(t *testing.T) {
	for _, s := range []string{"", "a", "hello", strings.Repeat("ab", 100)} {
		p := press.Pack(s)
		n := uint64(len(p))
		for _, w := range []uint64{0, n - 1, n + 1, n + 4, n + 128, 2 * n, 1 << 24, 1 << 31, 1 << 32, 1<<32 + n, 1 << 62, 1<<63 - 1, 1 << 63, 1<<63 + n, 1<<64 - 1} {
			noRecord(t, numOf(w)+crcOf(p)+p)
		}
		for extra := 1; extra < 10; extra++ {
			b := []byte(numOf(n))
			b[len(b)-1] |= 0x80
			b = append(b, strings.Repeat("\x80", extra-1)+"\x00"...)
			noRecord(t, string(b)+crcOf(p)+p)
		}
		noRecord(t, strings.Repeat("\x80", 12)+crcOf(p)+p)
		noRecord(t, strings.Repeat("\xff", 12)+crcOf(p)+p)
	}
}

// P6.1: bytes that press.Unpack does not accept are no packed bytes, even if their checksum agrees.
func TestOpenNotPacked(t *testing.T) {
	for _, p := range []string{
		"", "\x01", "\x01\x02", "\x01\x04ab", "\x02\x02a\x03\x02", "\x80\x00", "\x81\x00\x02a", "\xff", "a", "some text",
		press.Pack("a") + "x", press.Pack("") + "\x00", press.Pack("hello")[1:], numOf(1<<63) + "\x02a", numOf(1<<24+1) + "\x02a",
	} {
		if s, ok := press.Unpack(p); ok {
			t.Fatalf("%q is packed: %.20q", p, s)
		}
		noRecord(t, framed(p))
	}
}

// P6.1: packed bytes that press.Pack does not give are refused, though press.Unpack accepts them.
func TestOpenOtherPacked(t *testing.T) {
	for p, want := range map[string]string{
		"\x02\x02a\x03\x01":          "aa",
		"\x02\x02a\x02a":             "aa",
		"\x06\x0caaaaaa":             "aaaaaa",
		"\x06\x02a\x09\x01\x02a":     "aaaaaa",
		"\x06\x04aa\x09\x01":         "aaaaaa",
		"\x06\x04aa\x09\x02":         "aaaaaa",
		"\x06\x02a\x07\x01\x05\x01":  "aaaaaa",
		"\x08\x08abcd\x05\x04\x04cd": "abcdabcd",
	} {
		if s, ok := press.Unpack(p); !ok || s != want || press.Pack(s) == p {
			t.Fatalf("%q is unpacked as %q, %t", p, s, ok)
		}
		noRecord(t, framed(p))
		noRecord(t, numOf(uint64(len(p)))+crcOf(press.Pack(want))+p)
	}
}

// P6.1: a record of more than 2^20 unpacked bytes is none, and nothing behind it is read; one of exactly 2^20 is.
func TestOpenLong(t *testing.T) {
	most := strings.Repeat("m", mostPayload)
	finds(t, logOf("a", most, "b"), "a", most, "b")
	for _, n := range []int{mostPayload + 1, 2 * mostPayload, mostFile} {
		long := strings.Repeat("m", n)
		finds(t, logOf("a")+recordOf(long)+logOf("b", "c"), "a")
		finds(t, recordOf(long)+logOf("b", "c"))
	}
	long := noise(mostPayload + 1)
	finds(t, logOf("a")+recordOf(long)+logOf("b", "c"), "a")
	finds(t, logOf("a")+recordOf(long[1:])+logOf("b", "c"), "a", long[1:], "b", "c")
}

// P6.1: the file behind is emptied, whatever it holds, and it has no part in the log.
func TestOpenSpare(t *testing.T) {
	for _, spare := range []string{"x", recordOf("x"), logOf("x", "y") + "torn", noise(3000)} {
		for _, own := range []string{"", logOf("a", "b"), logOf("a", "b") + "torn"} {
			for f := range 7 {
				for flushed := range 2 {
					d := filled(t, f+1, spare, flushed*len(spare))
					is(t, "disk.Append", d.Append(f, own), api.OK)
					rows, n := prefixOf(own)
					has(t, opened(t, d, f), rows...)
					holds(t, d, f, own[:n], own[:n])
					holds(t, d, f+1, "", "")
				}
			}
		}
	}
}

// P6.1: Open changes no files but its two.
func TestOpenOthers(t *testing.T) {
	for f := range 7 {
		d := disk.New()
		for g := range 8 {
			is(t, "disk.Append", d.Append(g, "abc"), api.OK)
			is(t, "disk.Flush", d.Flush(g), api.OK)
			is(t, "disk.Append", d.Append(g, "de"), api.OK)
		}
		has(t, opened(t, d, f))
		for g := range 8 {
			if g == f || g == f+1 {
				holds(t, d, g, "", "")
			} else {
				holds(t, d, g, "abcde", "abc")
			}
		}
	}
}

// P6.1: the file is always flushed, and if that is lost, there is no log; what was done before stays done.
func TestOpenLost(t *testing.T) {
	for _, own := range []string{"", logOf("a"), logOf("a", "b") + "torn", "torn"} {
		for _, durable := range []int{0, len(own) / 2, len(own)} {
			rows, n := prefixOf(own)
			d := filled(t, 2, own, durable)
			is(t, "disk.Append", d.Append(3, "spare"), api.OK)
			d.Lose(2)
			for range 2 {
				if l, e := Open(d, 2); l != nil || e != api.ErrLost {
					t.Errorf("Open = %v, %d", l, e)
				}
				holds(t, d, 2, own[:n], own[:min(n, durable)])
				holds(t, d, 3, "", "")
			}
			has(t, opened(t, d, 2), rows...)
			holds(t, d, 2, own[:n], own[:n])
		}
	}
}

// P6.1: a file of the greatest length that a file has.
func TestOpenFull(t *testing.T) {
	r := recordOf("")
	b := strings.Repeat(r, mostFile/len(r))
	d := filled(t, 0, b+strings.Repeat("\x00", mostFile-len(b)), 0)
	l := opened(t, d, 0)
	if l.Len() != mostFile/len(r) || slices.ContainsFunc(l.All(), func(s string) bool { return s != "" }) || d.Size(0) != len(b) {
		t.Errorf("Len %d, Size %d", l.Len(), d.Size(0))
	}
	is(t, "Append", l.Append(""), api.ErrSize)
	is(t, "disk.Append", d.Append(0, "1234"), api.OK)
}

// P6.2: the records come one behind the other, each in one call of disk.Append, and are durable only after Flush.
func TestAppend(t *testing.T) {
	for _, f := range []int{0, 3, 6} {
		x := newPair(t, f)
		x.open()
		for i, s := range samples() {
			is(t, "Append", x.append(s), api.OK)
			if i%4 == 0 {
				is(t, "Flush", x.flush(), api.OK)
			}
		}
	}
	d := disk.New()
	l := opened(t, d, 1)
	is(t, "Append", l.Append("a"), api.OK)
	is(t, "Append", l.Append(""), api.OK)
	has(t, l, "a", "")
	holds(t, d, 1, logOf("a", ""), "")
	is(t, "Flush", l.Flush(), api.OK)
	holds(t, d, 1, logOf("a", ""), logOf("a", ""))
	is(t, "Append", l.Append("b"), api.OK)
	holds(t, d, 1, logOf("a", "", "b"), logOf("a", ""))
	has(t, l, "a", "", "b")
	has(t, opened(t, d.Copy(), 1), "a", "", "b")
}

// P6.2: a payload has at most 2^20 bytes; if a string has more, nothing is tried.
func TestAppendTooLong(t *testing.T) {
	d := disk.New()
	l := opened(t, d, 0)
	is(t, "Append", l.Append("a"), api.OK)
	d.Lose(1)
	d.Arm(2, nil)
	for _, s := range tooLong() {
		unchanged(t, d, "Append with ErrSize", func() { is(t, "Append", l.Append(s), api.ErrSize) })
		has(t, l, "a")
	}
	most := strings.Repeat("x", mostPayload)
	is(t, "Append", l.Append(most), api.OK)
	has(t, l, "a", most)
	d.Arm(0, nil)
	d.Lose(0)
	is(t, "Append", l.Append(most[1:]), api.OK)
	is(t, "Append", l.Append(noise(mostPayload)), api.OK)
	has(t, opened(t, d, 0), "a", most, most[1:], noise(mostPayload))
}

// nearlyFull is a log whose file has room for that many more bytes, with its payloads.
func nearlyFull(t *testing.T, d *disk.Disk, f, room int) (*Log, []string) {
	t.Helper()
	empty := recordOf("")
	count := (mostFile-room)/len(empty) - 20
	b := strings.Repeat(empty, count)
	// The record of a payload of noise is a little longer than that.
	first := noise(mostFile - room - len(b))
	for len(b)+len(recordOf(first)) > mostFile-room {
		first = first[1:]
	}
	b = recordOf(first) + b
	if len(b) != mostFile-room {
		t.Fatalf("the file has %d bytes", len(b))
	}
	is(t, "disk.Append", d.Append(f, b), api.OK)
	return opened(t, d, f), append([]string{first}, make([]string, count)...)
}

// same requires the payloads of a log too large to be printed.
func same(t *testing.T, l *Log, rows []string) {
	t.Helper()
	if !slices.Equal(l.All(), rows) || l.Len() != len(rows) {
		t.Errorf("Len %d, want %d, or other payloads", l.Len(), len(rows))
	}
}

// P6.2: an append that would make the file longer than 2^24 bytes changes nothing; one that makes it exactly as long is made.
func TestAppendFull(t *testing.T) {
	last := noise(1000)
	d := disk.New()
	l, rows := nearlyFull(t, d, 0, len(recordOf(last)))
	for _, s := range []string{noise(1001), noise(2000), noise(mostPayload)} {
		before := stateOf(d)
		is(t, "Append", l.Append(s), api.ErrSize)
		same(t, l, rows)
		if stateOf(d) != before {
			t.Error("Append with ErrSize changes the disk")
		}
	}
	is(t, "Append", l.Append(last), api.OK)
	rows = append(rows, last)
	same(t, l, rows)
	if d.Size(0) != mostFile {
		t.Errorf("the file has %d bytes", d.Size(0))
	}
	is(t, "Append", l.Append(""), api.ErrSize)
	is(t, "Flush", l.Flush(), api.OK)
	d.Crash(nil)
	is(t, "Append", l.Append(""), api.ErrDown)
	same(t, l, rows)
	d.Start()
	same(t, opened(t, d, 0), rows)
}

// P6.2: Flush flushes file f and no other, or returns that the flush was lost.
func TestFlush(t *testing.T) {
	d := disk.New()
	l := opened(t, d, 4)
	is(t, "Append", l.Append("a"), api.OK)
	is(t, "disk.Append", d.Append(0, "other"), api.OK)
	d.Lose(2)
	for range 2 {
		is(t, "Flush", l.Flush(), api.ErrLost)
		has(t, l, "a")
		holds(t, d, 4, logOf("a"), "")
	}
	is(t, "Flush", l.Flush(), api.OK)
	has(t, l, "a")
	holds(t, d, 4, logOf("a"), logOf("a"))
	holds(t, d, 0, "other", "")
	d.Lose(1)
	is(t, "Flush", l.Flush(), api.ErrLost)
	holds(t, d, 4, logOf("a"), logOf("a"))
	is(t, "Flush", l.Flush(), api.OK)
	d.Crash(nil)
	is(t, "Flush", l.Flush(), api.ErrDown)
}

// P6.3: All and Len tell the payloads that the log contains, equal ones as often as they were appended.
func TestAll(t *testing.T) {
	l := opened(t, disk.New(), 0)
	if l.Len() != 0 || len(l.All()) != 0 {
		t.Errorf("a new log is %q, Len %d", l.All(), l.Len())
	}
	rows := []string{"b", "a", "a", "", "", "c", "b"}
	for n, s := range rows {
		is(t, "Append", l.Append(s), api.OK)
		has(t, l, rows[:n+1]...)
	}
	is(t, "Rewrite", l.Rewrite(rows[3:]), api.OK)
	has(t, l, rows[3:]...)
	is(t, "Rewrite", l.Rewrite(nil), api.OK)
	has(t, l)
}

// P6.4: the rows replace the payloads, durably, whether there are more of them or fewer or none.
func TestRewrite(t *testing.T) {
	all := samples()
	for _, f := range []int{0, 3, 6} {
		for _, rows := range [][]string{nil, {}, {""}, {"", ""}, {"a"}, all, {strings.Repeat("x", mostPayload)}} {
			d := disk.New()
			l := opened(t, d, f)
			for i, s := range all {
				is(t, "Append", l.Append(s), api.OK)
				if i == 3 {
					is(t, "Flush", l.Flush(), api.OK)
				}
			}
			is(t, "Rewrite", l.Rewrite(rows), api.OK)
			has(t, l, rows...)
			holds(t, d, f, logOf(rows...), logOf(rows...))
			holds(t, d, f+1, "", "")
			is(t, "Append", l.Append("then"), api.OK)
			has(t, l, append(slices.Clone(rows), "then")...)
			has(t, opened(t, d, f), append(slices.Clone(rows), "then")...)
		}
	}
}

// P6.4: a log may be rewritten with its own payloads, or some of them, again and again.
func TestRewriteOwn(t *testing.T) {
	x := newPair(t, 2)
	x.open()
	for _, s := range samples() {
		x.append(s)
	}
	for x.l.Len() > 0 {
		is(t, "Rewrite", x.rewrite(x.l.All()...), api.OK)
		is(t, "Rewrite", x.rewrite(x.l.All()[1:]...), api.OK)
	}
	is(t, "Rewrite", x.rewrite(x.l.All()...), api.OK)
	is(t, "Append", x.append("a"), api.OK)
	own := x.l.All()
	is(t, "Rewrite", x.rewrite(slices.Concat(own, own)...), api.OK)
}

// leftover is a log with some data that a Rewrite whose flush was lost has left in the file behind.
func leftover(t *testing.T, d *disk.Disk, f int) *Log {
	t.Helper()
	l := opened(t, d, f)
	is(t, "Append", l.Append("a"), api.OK)
	is(t, "Flush", l.Flush(), api.OK)
	is(t, "Append", l.Append("b"), api.OK)
	d.Lose(1)
	is(t, "Rewrite", l.Rewrite([]string{"new", "rows"}), api.ErrLost)
	return l
}

// P6.4: after a lost flush, the log is unchanged, and file f+1 holds the rows; the next Rewrite empties it first.
func TestRewriteLost(t *testing.T) {
	for f := range 7 {
		d := disk.New()
		l := leftover(t, d, f)
		has(t, l, "a", "b")
		holds(t, d, f, logOf("a", "b"), logOf("a"))
		holds(t, d, f+1, logOf("new", "rows"), "")
		has(t, opened(t, d.Copy(), f), "a", "b")
		is(t, "Append", l.Append("c"), api.OK)
		has(t, l, "a", "b", "c")
		d.Lose(1)
		is(t, "Rewrite", l.Rewrite(nil), api.ErrLost)
		has(t, l, "a", "b", "c")
		holds(t, d, f+1, "", "")
		d.Lose(1)
		is(t, "Rewrite", l.Rewrite([]string{""}), api.ErrLost)
		has(t, l, "a", "b", "c")
		holds(t, d, f+1, logOf(""), "")
		is(t, "Rewrite", l.Rewrite([]string{"z"}), api.OK)
		has(t, l, "z")
		holds(t, d, f, logOf("z"), logOf("z"))
		holds(t, d, f+1, "", "")
	}
}

// P6.4: if a row is too long, wherever it is, nothing is tried, not even file f+1 is emptied.
func TestRewriteTooLong(t *testing.T) {
	for _, down := range []bool{false, true} {
		for _, s := range tooLong() {
			for _, rows := range [][]string{{s}, {s, "a"}, {"a", s}, {"", s, ""}, {"a", "b", s}, {s, s}} {
				d := disk.New()
				l := leftover(t, d, 0)
				d.Lose(1)
				if down {
					d.Crash(nil)
				}
				d.Arm(2, nil)
				unchanged(t, d, "Rewrite with ErrSize", func() { is(t, "Rewrite", l.Rewrite(rows), api.ErrSize) })
				has(t, l, "a", "b")
			}
		}
	}
}

// P6.4: rows whose records are longer than a file leave the log unchanged; records of exactly 2^24 bytes are written.
func TestRewriteFull(t *testing.T) {
	d := disk.New()
	full, rows := nearlyFull(t, d, 4, 0)
	same(t, full, rows)
	l := leftover(t, d, 0)
	is(t, "Rewrite", l.Rewrite(append(slices.Clone(rows), "")), api.ErrSize)
	has(t, l, "a", "b")
	holds(t, d, 0, logOf("a", "b"), logOf("a"))
	holds(t, d, 1, "", "")
	is(t, "Rewrite", l.Rewrite(append([]string{""}, rows...)), api.ErrSize)
	has(t, l, "a", "b")
	is(t, "Rewrite", l.Rewrite(rows), api.OK)
	same(t, l, rows)
	if d.Size(0) != mostFile || d.Size(1) != 0 {
		t.Errorf("the files have %d and %d bytes", d.Size(0), d.Size(1))
	}
	is(t, "Append", l.Append(""), api.ErrSize)
	// The limit is that of a file, and the old one is there until the new one is complete.
	is(t, "Rewrite", l.Rewrite(rows[1:]), api.OK)
	same(t, l, rows[1:])
	d.Crash(nil)
	d.Start()
	same(t, opened(t, d, 0), rows[1:])
	same(t, opened(t, d, 4), rows)
}

// P6.4: Rewrite appends once, flushes and turns, whatever the rows are, and cuts before only if file f+1 holds something: so many calls can be made before a scheduled crash.
func TestRewriteCalls(t *testing.T) {
	for _, rows := range [][]string{nil, {""}, {"a"}, {"a", "b", "c"}} {
		for n := 1; n < 6; n++ {
			d := disk.New()
			l := opened(t, d, 0)
			d.Arm(n, nil)
			is(t, "Rewrite", l.Rewrite(rows), map[bool]api.Errno{true: api.ErrDown, false: api.OK}[n <= 3])
			d = disk.New()
			l = leftover(t, d, 0)
			d.Arm(n, nil)
			is(t, "Rewrite", l.Rewrite(rows), map[bool]api.Errno{true: api.ErrDown, false: api.OK}[n <= 4])
		}
	}
}

// P6.5: while the disk is down, nothing changes, and the log still tells what it contained before the crash.
func TestDown(t *testing.T) {
	for _, armed := range []bool{false, true} {
		d := disk.New()
		l := leftover(t, d, 2)
		if armed {
			d.Arm(1, nil)
			is(t, "Flush", l.Flush(), api.ErrDown)
		} else {
			d.Crash(nil)
		}
		d.Lose(1)
		d.Arm(2, nil)
		most := strings.Repeat("x", mostPayload)
		unchanged(t, d, "calls with ErrDown", func() {
			for range 3 {
				is(t, "Append", l.Append("c"), api.ErrDown)
				is(t, "Append", l.Append(""), api.ErrDown)
				is(t, "Append", l.Append(most), api.ErrDown)
				is(t, "Append", l.Append(most+"x"), api.ErrSize)
				is(t, "Flush", l.Flush(), api.ErrDown)
				is(t, "Rewrite", l.Rewrite(nil), api.ErrDown)
				is(t, "Rewrite", l.Rewrite([]string{"", most}), api.ErrDown)
				is(t, "Rewrite", l.Rewrite(l.All()), api.ErrDown)
				is(t, "Rewrite", l.Rewrite([]string{"", most + "x"}), api.ErrSize)
				has(t, l, "a", "b")
			}
		})
	}
}

// P6.5: what a crash loses, or what it leaves of an interrupted call, is not seen in the log that was open.
func TestDownInterrupted(t *testing.T) {
	d := disk.New()
	l := opened(t, d, 0)
	is(t, "Append", l.Append("a"), api.OK)
	d.Arm(1, []int{999})
	is(t, "Append", l.Append("b"), api.ErrDown)
	has(t, l, "a")
	holds(t, d, 0, logOf("a", "b"), logOf("a", "b"))
	d.Start()
	has(t, opened(t, d, 0), "a", "b")
	for n := 1; n <= 3; n++ {
		d := disk.New()
		l := opened(t, d, 0)
		is(t, "Append", l.Append("a"), api.OK)
		d.Arm(n, []int{999, 999})
		is(t, "Rewrite", l.Rewrite([]string{"b"}), api.ErrDown)
		has(t, l, "a")
	}
}

// P6.6: the log has no part in the slice that Rewrite got, nor writes to it.
func TestRewriteKeepsNothing(t *testing.T) {
	d := disk.New()
	l := opened(t, d, 0)
	whole := []string{"a", "b", "c", "d"}
	rows := whole[:2]
	is(t, "Rewrite", l.Rewrite(rows), api.OK)
	is(t, "Append", l.Append("x"), api.OK)
	if !slices.Equal(whole, []string{"a", "b", "c", "d"}) {
		t.Errorf("the rows have become %q", whole)
	}
	for i := range whole {
		whole[i] = "changed"
	}
	has(t, l, "a", "b", "x")
	is(t, "Append", l.Append("y"), api.OK)
	_ = append(rows, "other", "others")
	has(t, l, "a", "b", "x", "y")
	if !slices.Equal(whole, []string{"changed", "changed", "other", "others"}) {
		t.Errorf("the rows have become %q", whole)
	}
}

// P6.6: the log has no part in the slices that All returned, and they keep what they are.
func TestAllIsFresh(t *testing.T) {
	for _, how := range []string{"opened", "appended", "rewritten"} {
		d := disk.New()
		l := opened(t, d, 0)
		for _, s := range []string{"a", "b", "c"} {
			is(t, "Append", l.Append(s), api.OK)
		}
		switch how {
		case "opened":
			l = opened(t, d, 0)
		case "rewritten":
			is(t, "Rewrite", l.Rewrite(l.All()), api.OK)
		}
		one, two := l.All(), l.All()
		one[0] = "changed"
		_ = append(one[:1], "changed", "changed", "changed", "changed")
		if !slices.Equal(two, []string{"a", "b", "c"}) {
			t.Errorf("%s: another result has become %q", how, two)
		}
		has(t, l, "a", "b", "c")
		three, kept := l.All(), l.All()
		is(t, "Append", l.Append("d"), api.OK)
		_ = append(three, "other", "others")
		has(t, l, "a", "b", "c", "d")
		is(t, "Rewrite", l.Rewrite([]string{"x", "y", "z", "zz"}), api.OK)
		if !slices.Equal(kept, []string{"a", "b", "c"}) {
			t.Errorf("%s: an earlier result has become %q", how, kept)
		}
		has(t, l, "x", "y", "z", "zz")
	}
}

// P6.6: a log that was rewritten with what another one returned has no part in it.
func TestTwoLogs(t *testing.T) {
	for _, files := range [][2]int{{0, 2}, {4, 6}, {6, 0}} {
		d := disk.New()
		one, two := opened(t, d, files[0]), opened(t, d, files[1])
		is(t, "Append", one.Append("a"), api.OK)
		is(t, "Append", two.Append("b"), api.OK)
		is(t, "Flush", two.Flush(), api.OK)
		holds(t, d, files[0], logOf("a"), "")
		is(t, "Rewrite", two.Rewrite(one.All()), api.OK)
		is(t, "Append", two.Append("c"), api.OK)
		is(t, "Append", one.Append("d"), api.OK)
		has(t, one, "a", "d")
		has(t, two, "a", "c")
		is(t, "Flush", one.Flush(), api.OK)
		d.Crash(nil)
		has(t, one, "a", "d")
		has(t, two, "a", "c")
		d.Start()
		has(t, opened(t, d, files[0]), "a", "d")
		has(t, opened(t, d, files[1]), "a")
	}
}

// P6.7: the chapter's example: what was appended after the last flush is lost.
func TestExample(t *testing.T) {
	d := disk.New()
	l := opened(t, d, 0)
	has(t, l)
	is(t, "Append", l.Append("a"), api.OK)
	is(t, "Flush", l.Flush(), api.OK)
	is(t, "Append", l.Append("b"), api.OK)
	d.Crash(nil)
	d.Start()
	has(t, opened(t, d, 0), "a")
}

// past is what a log has contained, by which the possible results of a crash are told.
type past struct {
	rows []string
	// sure is the number of payloads that were there at the last successful Flush, Rewrite or Open.
	sure int
	// appended is the payload of an interrupted Append, and rewritten are the rows of an interrupted Rewrite.
	appended  []string
	rewritten [][]string
}

// outcome names what is left of the past, or is empty if that cannot be.
func (p past) outcome(found []string) string {
	n := len(found)
	switch {
	case p.sure <= n && n <= len(p.rows) && slices.Equal(found, p.rows[:n]):
		if n == len(p.rows) {
			return "all"
		}
		return "a prefix"
	case len(p.appended) > 0 && slices.Equal(found, slices.Concat(p.rows, p.appended)):
		return "the interrupted payload, too"
	case len(p.rewritten) > 0 && slices.Equal(found, p.rewritten[0]):
		return "the new rows"
	}
	return ""
}

// reopen opens the log of a disk that has crashed, if need be again and again.
func (x *pair) reopen() []string {
	x.t.Helper()
	x.start()
	for range 5 {
		if e := x.open(); e == api.OK {
			return x.l.All()
		} else if e == api.ErrDown {
			x.start()
		}
	}
	x.t.Fatalf("%v: the log cannot be opened", *x.said)
	return nil
}

// scene is a situation with a call that a crash may strike.
type scene struct {
	name string
	// torn are bytes behind the records, and spare those of the file behind, both for Open alone.
	torn, spare string
	leftover    bool
	call        func(x *pair) api.Errno
	past        past
}

func scenes() []scene {
	rows := []string{"a", "", "bb", "c"}
	before := past{rows: rows, sure: 2}
	appends := func(s string) scene {
		return scene{name: "Append", call: func(x *pair) api.Errno { return x.append(s) }, past: past{rows: rows, sure: 2, appended: []string{s}}}
	}
	rewrites := func(leftover bool, new ...string) scene {
		return scene{name: "Rewrite", leftover: leftover, call: func(x *pair) api.Errno { return x.rewrite(new...) }, past: past{rows: rows, sure: 2, rewritten: [][]string{new}}}
	}
	opens := func(torn, spare string) scene {
		return scene{name: "Open", torn: torn, spare: spare, call: (*pair).open, past: before}
	}
	return []scene{
		opens("", ""), opens("torn", ""), opens("", "spare"), opens(recordOf("d")[:6], logOf("spare")),
		{name: "Flush", call: (*pair).flush, past: before},
		appends(""), appends("ddd"),
		rewrites(false), rewrites(false, ""), rewrites(false, "a", "", "bb", "c", "e"), rewrites(false, "x", "y"),
		rewrites(true), rewrites(true, "x", "y"),
	}
}

// play brings the pair into the situation, without what is for Open alone.
func (c scene) play(x *pair) {
	x.t.Helper()
	x.open()
	x.append("a")
	x.append("")
	x.flush()
	x.append("bb")
	x.append("c")
	if c.leftover {
		x.lose(1)
		x.rewrite("left", "over")
	}
	if c.name == "Open" {
		x.bytes(x.m.f, c.torn)
		x.bytes(x.m.f+1, c.spare)
	}
}

// keeps are, for file f and the one behind, how many bytes survive a crash: none, some or all.
func keeps(f int) [][]int {
	var out [][]int
	for _, k := range []int{0, 1, len(recordOf("bb")), len(recordOf("bb")) + 5, len(logOf("bb", "c")), len(logOf("bb", "c")) + 4, 999} {
		for _, l := range []int{0, 4, len(recordOf("x")), 999} {
			keep := make([]int, f+2)
			keep[f], keep[f+1] = k, l
			out = append(out, keep)
		}
	}
	return append(out, nil)
}

// P6.1, P6.2, P6.4, P6.5, P6.7: a crash strikes each of the calls of the disk that a call makes, with lost flushes besides, whatever part of the bytes survives.
func TestCrashInEachCall(t *testing.T) {
	counts := map[string]int{}
	for _, c := range scenes() {
		for _, f := range []int{0, 5} {
			for _, keep := range keeps(f) {
				for n := range 6 {
					for lost := range 2 {
						x := newPair(t, f)
						c.play(x)
						x.lose(lost)
						x.arm(n, keep)
						e := c.call(x)
						counts[fmt.Sprintf("%s: %d", c.name, e)]++
						counts[c.name+": "+crashAfter(x, c, e, keep)]++
					}
				}
			}
		}
	}
	for _, want := range []string{
		"Open: 0", "Open: 12", "Open: 13", "Open: all", "Open: a prefix",
		"Flush: 0", "Flush: 12", "Flush: 13", "Flush: all", "Flush: a prefix",
		"Append: 0", "Append: 12", "Append: all", "Append: a prefix", "Append: the interrupted payload, too",
		"Rewrite: 0", "Rewrite: 12", "Rewrite: 13", "Rewrite: all", "Rewrite: a prefix", "Rewrite: the new rows",
	} {
		if counts[want] == 0 {
			t.Errorf("%s has not occurred: %v", want, counts)
		}
	}
}

// crashAfter lets the disk crash after the call, unless it is down, and tells the outcome. While it is down, the calls are tried.
func crashAfter(x *pair, c scene, e api.Errno, keep []int) string {
	x.t.Helper()
	p := c.past
	switch {
	case e == api.OK && c.name == "Append":
		p = past{rows: slices.Concat(p.rows, p.appended), sure: p.sure}
	case e == api.OK && c.name == "Rewrite":
		p = past{rewritten: p.rewritten, sure: 1}
	case e == api.OK:
		p.sure = len(p.rows)
	}
	x.crash(keep)
	for _, down := range []api.Errno{x.append("e"), x.append(""), x.flush(), x.rewrite(), x.rewrite("f"), x.rewrite(x.l.All()...)} {
		is(x.t, "a call while the disk is down", down, api.ErrDown)
	}
	is(x.t, "a payload that is too long", x.append(strings.Repeat("x", mostPayload+1)), api.ErrSize)
	found := x.reopen()
	out := p.outcome(found)
	if out == "" {
		x.t.Fatalf("%v: found %q", *x.said, found)
	}
	return out
}

// P6.7: what Open has found stays: another crash, which strikes any of its calls or comes right behind it, loses none of it.
func TestCrashAgain(t *testing.T) {
	for _, keep := range keeps(2) {
		for n := range 5 {
			x := newPair(t, 2)
			scenes()[0].play(x)
			x.crash(keep)
			x.start()
			x.arm(n, nil)
			x.open()
			x.crash(nil)
			first := x.reopen()
			x.crash(nil)
			if second := x.reopen(); !slices.Equal(first, second) {
				t.Fatalf("%v: %q, then %q", *x.said, first, second)
			}
		}
	}
}

// P6.1 to P6.7: long random sequences of calls with lost flushes and crashes, on two logs in one disk, compared with the definition after each call.
func TestRandomCalls(t *testing.T) {
	r := rand.New(rand.NewSource(7))
	texts := []string{"", "a", "b", "hello", "aaaaaaaaaa", "\x00", noise(30)}
	for range 500 {
		one := newPair(t, r.Intn(3))
		two := one.beside(3 + r.Intn(4))
		one.open()
		two.open()
		for range 100 {
			x := []*pair{one, two}[r.Intn(2)]
			s := texts[r.Intn(len(texts))]
			switch k := r.Intn(20); {
			case k < 8:
				x.append(s)
			case k < 11:
				x.flush()
			case k < 13:
				rows := x.l.All()
				i := r.Intn(len(rows) + 1)
				x.rewrite(slices.Concat(rows[i:], rows[:i/2], []string{s}[:r.Intn(2)])...)
			case k < 15:
				x.lose(r.Intn(3))
			case k < 17:
				x.arm(r.Intn(6), randomKeep(r))
			case k < 18:
				x.crash(randomKeep(r))
			default:
				reopenBoth(one, two)
			}
			if x.d.Down() && r.Intn(3) == 0 {
				reopenBoth(one, two)
			}
		}
	}
}

func randomKeep(r *rand.Rand) []int {
	keep := make([]int, r.Intn(9))
	for f := range keep {
		keep[f] = r.Intn(40) - 5
	}
	return keep
}

// reopenBoth opens both logs of a disk, with no crash between them.
func reopenBoth(one, two *pair) {
	one.t.Helper()
	for {
		one.reopen()
		two.l = nil
		e := two.open()
		for e == api.ErrLost {
			e = two.open()
		}
		if e == api.OK {
			return
		}
	}
}

// P6.7: the property itself, in random sequences of calls with crashes in the middle of them.
func TestCrashProperty(t *testing.T) {
	r := rand.New(rand.NewSource(8))
	counts := map[string]int{}
	for range 400 {
		d := disk.New()
		f := r.Intn(7)
		l := opened(t, d, f)
		var p past
		var said []string
		for step := range 80 {
			s := strings.Repeat(string(rune('a'+step%26)), r.Intn(12))
			e := p.random(r, l, s, &said)
			if k := r.Intn(12); k == 0 {
				d.Arm(1+r.Intn(6), randomKeep(r))
			} else if k == 1 {
				d.Lose(r.Intn(3))
			} else if k == 2 && !d.Down() {
				d.Crash(randomKeep(r))
			}
			if e != api.ErrDown && !d.Down() {
				continue
			}
			d.Start()
			next, e := Open(d, f)
			for e != api.OK {
				d.Start()
				next, e = Open(d, f)
			}
			out := p.outcome(next.All())
			if out == "" {
				t.Fatalf("%v: found %q, and the past is %v", said, next.All(), p)
			}
			said = append(said, "found "+out)
			counts[out]++
			l, p = next, past{rows: next.All(), sure: next.Len()}
		}
	}
	for _, want := range []string{"all", "a prefix", "the interrupted payload, too"} {
		if counts[want] < 20 {
			t.Errorf("%s has hardly occurred: %v", want, counts)
		}
	}
}

// random makes a call and notes what may be left of it.
func (p *past) random(r *rand.Rand, l *Log, s string, said *[]string) api.Errno {
	var e api.Errno
	switch k := r.Intn(10); {
	case k < 6:
		*said = append(*said, "Append "+s)
		if e = l.Append(s); e == api.OK {
			p.rows = append(p.rows, s)
		} else if e == api.ErrDown {
			p.appended = []string{s}
		}
	case k < 8:
		*said = append(*said, "Flush")
		if e = l.Flush(); e == api.OK {
			p.sure = len(p.rows)
		}
	default:
		rows := append(l.All()[r.Intn(l.Len()+1):], s)
		*said = append(*said, fmt.Sprintf("Rewrite %q", rows))
		if e = l.Rewrite(rows); e == api.OK {
			*p = past{rows: rows, sure: len(rows)}
		} else if e == api.ErrDown {
			p.rewritten = [][]string{rows}
		}
	}
	return e
}
