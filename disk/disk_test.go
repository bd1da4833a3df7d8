package disk

import (
	"fmt"
	"math"
	"math/rand"
	"slices"
	"strings"
	"testing"

	"retroact/api"
)

const most = 1 << 24

// model is the machine of the chapter, as plainly as possible and apart from the code under test: the bytes of each file, and those of them that are durable.
type model struct {
	bytes, durable [8]string
	down           bool
	lost, left     int
	keep           []int
}

// call is a call of a method: of file f, with a second file or another number, a string or a list.
type call struct {
	do   string
	f, n int
	s    string
	keep []int
}

func (c call) String() string { return fmt.Sprintf("%s(%d,%d,%.9q,%v)", c.do, c.f, c.n, c.s, c.keep) }

// on makes the call.
func (c call) on(d *Disk) (string, api.Errno) {
	switch c.do {
	case "append":
		return "", d.Append(c.f, c.s)
	case "read":
		return d.Read(c.f)
	case "flush":
		return "", d.Flush(c.f)
	case "cut":
		return "", d.Cut(c.f, c.n)
	case "turn":
		return "", d.Turn(c.f, c.n)
	case "lose":
		d.Lose(c.n)
	case "crash":
		d.Crash(c.keep)
	case "arm":
		d.Arm(c.n, c.keep)
	case "start":
		d.Start()
	}
	return "", api.OK
}

// after is the machine after the call, with the results of the call.
func (m model) after(c call) (model, string, api.Errno) {
	switch c.do {
	case "lose":
		m.lost = c.n
		return m, "", api.OK
	case "crash":
		return m.crashed(c.keep), "", api.OK
	case "arm":
		m.left, m.keep = c.n, slices.Clone(c.keep)
		return m, "", api.OK
	case "start":
		m.down = false
		return m, "", api.OK
	}
	if m.down {
		return m, "", api.ErrDown
	}
	done, s, e := m.performed(c)
	if c.do == "read" || m.left < 1 {
		return done, s, e
	}
	done.left, m.left = done.left-1, m.left-1
	if m.left > 0 {
		return done, s, e
	}
	if c.do == "append" {
		m = done
	}
	return m.crashed(m.keep), "", api.ErrDown
}

// performed is the machine, which is up, after a call that no crash strikes.
func (m model) performed(c call) (model, string, api.Errno) {
	if c.f < 0 || c.f > 7 || c.do == "turn" && (c.n < 0 || c.n > 7) {
		return m, "", api.ErrArg
	}
	switch c.do {
	case "append":
		if len(m.bytes[c.f])+len(c.s) > most {
			return m, "", api.ErrSize
		}
		m.bytes[c.f] += c.s
	case "read":
		return m, m.bytes[c.f], api.OK
	case "flush":
		if m.lost > 0 {
			m.lost--
			return m, "", api.ErrLost
		}
		m.durable[c.f] = m.bytes[c.f]
	case "cut":
		if c.n < 0 || c.n > len(m.bytes[c.f]) {
			return m, "", api.ErrArg
		}
		m.bytes[c.f] = m.bytes[c.f][:c.n]
		m.durable[c.f] = m.durable[c.f][:min(c.n, len(m.durable[c.f]))]
	case "turn":
		if c.f == c.n {
			return m, "", api.ErrArg
		}
		if m.durable[c.n] != m.bytes[c.n] {
			return m, "", api.ErrState
		}
		m.bytes[c.f], m.durable[c.f] = m.bytes[c.n], m.durable[c.n]
		m.bytes[c.n], m.durable[c.n] = "", ""
	}
	return m, "", api.OK
}

func (m model) crashed(keep []int) model {
	if m.down {
		return m
	}
	m.down, m.left = true, 0
	for f, s := range m.bytes {
		rest := len(s) - len(m.durable[f])
		if f >= len(keep) || keep[f] < 0 {
			rest = 0
		} else if keep[f] < rest {
			rest = keep[f]
		}
		m.bytes[f] = s[:len(m.durable[f])+rest]
		m.durable[f] = m.bytes[f]
	}
	return m
}

// kept is what a crash that keeps no other bytes leaves of the files of a copy.
func kept(d *Disk) [8]string {
	c := d.Copy()
	c.Crash(nil)
	return contents(c)
}

// contents are the bytes of all files, whether the machine is up or down.
func contents(d *Disk) [8]string {
	c := d.Copy()
	c.Start()
	var all [8]string
	for f := range all {
		all[f], _ = c.Read(f)
	}
	return all
}

// sizes are the lengths that the disk itself reports.
func sizes(d *Disk) [8]int {
	var all [8]int
	for f := range all {
		all[f] = d.Size(f)
	}
	return all
}

// differs tells in what the disk differs from the machine that it should be.
func differs(d *Disk, m model) string {
	var lengths [8]int
	for f, s := range m.bytes {
		lengths[f] = len(s)
	}
	switch {
	case d.Down() != m.down:
		return fmt.Sprintf("down: %t", d.Down())
	case sizes(d) != lengths:
		return fmt.Sprintf("sizes %v, want %v", sizes(d), lengths)
	case contents(d) != m.bytes:
		return fmt.Sprintf("files %q, want %q", contents(d), m.bytes)
	case kept(d) != m.durable:
		return fmt.Sprintf("durable %q, want %q", kept(d), m.durable)
	}
	return ""
}

// disks is a disk with the machine that it should be and the calls so far.
type disks struct {
	t    *testing.T
	d    *Disk
	m    model
	said []string
}

func newDisks(t *testing.T) *disks { return &disks{t: t, d: New()} }

// make makes the call and compares its results with those of the model.
func (x *disks) make(c call) api.Errno {
	x.t.Helper()
	want, s, e := x.m.after(c)
	x.m, x.said = want, append(x.said, c.String())
	if got, err := c.on(x.d); got != s || err != e {
		x.t.Fatalf("%v: %.9q, %d; want %.9q, %d", x.said, got, err, s, e)
	}
	return e
}

func (x *disks) compare() {
	x.t.Helper()
	if bad := differs(x.d, x.m); bad != "" {
		x.t.Fatalf("%v: %s", x.said, bad)
	}
}

func (x *disks) copy() *disks { return &disks{x.t, x.d.Copy(), x.m, slices.Clone(x.said)} }

func is(t *testing.T, what string, got, want api.Errno) {
	t.Helper()
	if got != want {
		t.Errorf("%s = %d, want %d", what, got, want)
	}
}

// has requires the bytes of the file, and those of them that are durable.
func has(t *testing.T, d *Disk, f int, bytes, durable string) {
	t.Helper()
	if got, rest := contents(d)[f], kept(d)[f]; got != bytes || rest != durable || d.Size(f) != len(bytes) {
		t.Errorf("file %d: %.20q, durable %.20q, size %d; want %.20q, durable %.20q", f, got, rest, d.Size(f), bytes, durable)
	}
}

// up requires that the disk is up and that file f has the bytes, without a copy: calls on the disk itself must succeed.
func up(t *testing.T, d *Disk, f int, bytes string) {
	t.Helper()
	if s, e := d.Read(f); d.Down() || s != bytes || e != api.OK {
		t.Errorf("file %d: %.20q, %d, down: %t; want %.20q", f, s, e, d.Down(), bytes)
	}
}

// filled is a disk that is up, with the durable bytes abc and the further bytes def in each file.
func filled(t *testing.T) *Disk {
	t.Helper()
	d := New()
	for f := range 8 {
		is(t, "Append", d.Append(f, "abc"), api.OK)
		is(t, "Flush", d.Flush(f), api.OK)
		is(t, "Append", d.Append(f, "def"), api.OK)
	}
	return d
}

// outside are numbers of no file.
func outside() []int {
	return []int{-1, 8, -2, 9, -8, 255, 256, 1 << 32, -1 << 32, math.MaxInt, math.MinInt}
}

// P5.1: a new disk is up, its files are empty, and the disks do not depend on each other.
func TestNew(t *testing.T) {
	d := New()
	for f := range 8 {
		up(t, d, f, "")
		has(t, d, f, "", "")
	}
	is(t, "Append", d.Append(3, "x"), api.OK)
	d.Crash([]int{3: 1})
	if e := New(); e.Down() || contents(e) != [8]string{} || sizes(e) != [8]int{} {
		t.Errorf("another new disk: %q, down: %t", contents(e), e.Down())
	}
}

// P5.1: the length of each file, and 0 for a number of no file.
func TestSize(t *testing.T) {
	d := New()
	for f := range 8 {
		is(t, "Append", d.Append(f, strings.Repeat("x", 10+f)), api.OK)
	}
	sized := func() {
		t.Helper()
		if got := sizes(d); got != [8]int{10, 11, 12, 13, 14, 15, 16, 17} {
			t.Errorf("sizes %v", got)
		}
		for _, f := range outside() {
			if n := d.Size(f); n != 0 {
				t.Errorf("Size(%d) = %d", f, n)
			}
		}
	}
	sized()
	d.Crash([]int{99, 99, 99, 99, 99, 99, 99, 99})
	sized()
	d.Start()
	sized()
}

// P5.1: the machine is down from a crash until it is started.
func TestDown(t *testing.T) {
	d := New()
	for _, x := range []struct {
		do   func()
		down bool
	}{
		{d.Start, false},
		{func() { d.Crash(nil) }, true},
		{func() { d.Crash(nil) }, true},
		{d.Start, false},
		{d.Start, false},
		{func() { d.Arm(1, nil) }, false},
		{func() { d.Read(0) }, false},
		{func() { d.Flush(0) }, true},
		{d.Start, false},
		{func() { d.Flush(0) }, false},
	} {
		if x.do(); d.Down() != x.down {
			t.Errorf("down: %t, want %t", d.Down(), x.down)
		}
	}
}

// P5.1: a copy and its original go on independently, whichever of them is written to, cut, turned or crashed.
func TestCopyIsIndependent(t *testing.T) {
	changes := []func(d *Disk){
		func(d *Disk) { d.Append(0, "new") },
		func(d *Disk) { d.Flush(0) },
		func(d *Disk) { d.Cut(0, 1); d.Append(0, "XYZ") },
		func(d *Disk) { d.Cut(0, 4); d.Append(0, "!!!!") },
		func(d *Disk) { d.Flush(1); d.Turn(0, 1); d.Append(0, "?"); d.Append(1, "0000000") },
		func(d *Disk) { d.Crash(nil) },
		func(d *Disk) { d.Crash([]int{1, 2, 3}); d.Start(); d.Append(0, "+++++++") },
		func(d *Disk) { d.Lose(3) },
		func(d *Disk) { d.Arm(1, []int{9, 9}) },
	}
	for i, change := range changes {
		for _, copyFirst := range []bool{false, true} {
			d := filled(t)
			c := d.Copy()
			if copyFirst {
				d, c = c, d
			}
			change(d)
			for f := range 8 {
				has(t, c, f, "abcdef", "abc")
			}
			before := contents(d)
			is(t, "Append to the other", c.Append(0, "@@@@@@@@@"), api.OK)
			is(t, "Flush of the other", c.Flush(0), api.OK)
			has(t, c, 0, "abcdef@@@@@@@@@", "abcdef@@@@@@@@@")
			if got := contents(d); got != before {
				t.Errorf("%d: %q became %q when the other disk was written to", i, before, got)
			}
		}
	}
}

// P5.1: a copy of a machine that is down is down.
func TestCopyOfDown(t *testing.T) {
	d := filled(t)
	d.Crash([]int{2})
	c := d.Copy()
	d.Start()
	if _, e := c.Read(0); !c.Down() || e != api.ErrDown || d.Down() {
		t.Errorf("down: %t and %t, Read: %d", c.Down(), d.Down(), e)
	}
	has(t, c, 0, "abcde", "abcde")
	c.Start()
	up(t, c, 0, "abcde")
}

// P5.1: a copy has the pending lost flushes, and each disk loses its own.
func TestCopyOfLose(t *testing.T) {
	d := New()
	d.Lose(3)
	is(t, "Flush", d.Flush(0), api.ErrLost)
	c := d.Copy()
	is(t, "Flush of the copy", c.Flush(0), api.ErrLost)
	is(t, "Flush of the copy", c.Flush(0), api.ErrLost)
	is(t, "Flush of the copy", c.Flush(0), api.OK)
	e := d.Copy()
	is(t, "Flush", d.Flush(0), api.ErrLost)
	is(t, "Flush", d.Flush(0), api.ErrLost)
	is(t, "Flush", d.Flush(0), api.OK)
	e.Lose(0)
	is(t, "Flush of the second copy", e.Flush(0), api.OK)
}

// P5.1: a copy has the scheduled crash, with what it keeps and what is left until it, and each disk counts its own calls.
func TestCopyOfArm(t *testing.T) {
	d := filled(t)
	d.Arm(3, []int{1, 0, 2})
	is(t, "Cut", d.Cut(5, 6), api.OK)
	c, e := d.Copy(), d.Copy()
	struck := func(d *Disk) {
		t.Helper()
		is(t, "the second call", d.Cut(5, 6), api.OK)
		is(t, "the third call", d.Cut(5, 6), api.ErrDown)
		for f, s := range []string{"abcd", "abc", "abcde", "abc"} {
			has(t, d, f, s, s)
		}
	}
	struck(c)
	if d.Down() {
		t.Error("the copy's crash took the original down")
	}
	e.Arm(0, nil)
	struck(d)
	for range 4 {
		is(t, "a call after the crash was cancelled", e.Cut(5, 6), api.OK)
	}
}

// P5.2: appending to each file, of strings of all bytes and of the empty one. The bytes are not durable.
func TestAppend(t *testing.T) {
	var all strings.Builder
	for c := range 256 {
		all.WriteByte(byte(c))
	}
	d := New()
	for f := range 8 {
		for _, s := range []string{"", "a", "\x00", all.String(), "", "\xff\xfe"} {
			is(t, "Append", d.Append(f, s), api.OK)
		}
		up(t, d, f, "a\x00"+all.String()+"\xff\xfe")
		has(t, d, f, "a\x00"+all.String()+"\xff\xfe", "")
		for g := f + 1; g < 8; g++ {
			up(t, d, g, "")
		}
	}
}

// P5.2: an Append leaves the durable prefix as it is.
func TestAppendIsNotDurable(t *testing.T) {
	d := New()
	is(t, "Append", d.Append(0, "ab"), api.OK)
	has(t, d, 0, "ab", "")
	is(t, "Flush", d.Flush(0), api.OK)
	has(t, d, 0, "ab", "ab")
	is(t, "Append", d.Append(0, "cd"), api.OK)
	is(t, "Append", d.Append(0, "e"), api.OK)
	has(t, d, 0, "abcde", "ab")
	is(t, "Append", d.Append(0, ""), api.OK)
	has(t, d, 0, "abcde", "ab")
}

// P5.2: a file has at most 2^24 bytes, which may come in one piece or in many; each file has its own.
func TestFull(t *testing.T) {
	long := strings.Repeat("0123456789abcdef", most/16)
	d := New()
	is(t, "Append of too much", d.Append(7, long+"x"), api.ErrSize)
	has(t, d, 7, "", "")
	is(t, "Append of all", d.Append(7, long), api.OK)
	has(t, d, 7, long, "")
	for n := 0; n < most; n += 64 {
		if e := d.Append(0, long[n:n+64]); e != api.OK {
			t.Fatalf("Append at %d: %d", n, e)
		}
	}
	is(t, "Append of another byte", d.Append(0, "x"), api.ErrSize)
	is(t, "Append of another file", d.Append(0, long), api.ErrSize)
	is(t, "Append of nothing", d.Append(0, ""), api.OK)
	has(t, d, 0, long, "")
	is(t, "Append to an empty file", d.Append(1, "x"), api.OK)
	is(t, "Flush", d.Flush(0), api.OK)
	is(t, "Append to a durable file", d.Append(0, "x"), api.ErrSize)
	has(t, d, 0, long, long)
	is(t, "Cut", d.Cut(0, most-2), api.OK)
	is(t, "Append of three bytes", d.Append(0, "xyz"), api.ErrSize)
	is(t, "Append of two bytes", d.Append(0, "xy"), api.OK)
	is(t, "Append of another byte", d.Append(0, "z"), api.ErrSize)
	has(t, d, 0, long[:most-2]+"xy", long[:most-2])
	d.Crash([]int{1})
	d.Start()
	is(t, "Append of two bytes", d.Append(0, "yz"), api.ErrSize)
	is(t, "Append of a byte", d.Append(0, "y"), api.OK)
	is(t, "Flush", d.Flush(0), api.OK)
	is(t, "Turn", d.Turn(1, 0), api.OK)
	is(t, "Append to the turned file", d.Append(1, "z"), api.ErrSize)
	is(t, "Append to the emptied file", d.Append(0, long), api.OK)
	has(t, d, 1, long[:most-2]+"xy", long[:most-2]+"xy")
}

// P5.2: Flush makes the whole of one file durable.
func TestFlush(t *testing.T) {
	for f := range 8 {
		d := filled(t)
		is(t, "Flush", d.Flush(f), api.OK)
		for g := range 8 {
			if g == f {
				has(t, d, g, "abcdef", "abcdef")
			} else {
				has(t, d, g, "abcdef", "abc")
			}
		}
		is(t, "Flush again", d.Flush(f), api.OK)
		has(t, d, f, "abcdef", "abcdef")
	}
	d := New()
	is(t, "Flush of an empty file", d.Flush(4), api.OK)
	has(t, d, 4, "", "")
}

// P5.2: Cut to every length, from 0 to Size, with every durable length.
func TestCut(t *testing.T) {
	const s = "abcdefg"
	for durable := range len(s) + 1 {
		for n := range len(s) + 1 {
			d := New()
			for f := range 8 {
				is(t, "Append", d.Append(f, s[:durable]), api.OK)
				is(t, "Flush", d.Flush(f), api.OK)
				is(t, "Append", d.Append(f, s[durable:]), api.OK)
			}
			f := (durable + n) % 8
			is(t, "Cut", d.Cut(f, n), api.OK)
			has(t, d, f, s[:n], s[:min(n, durable)])
			has(t, d, (f+1)%8, s, s[:durable])
			has(t, d, (f+7)%8, s, s[:durable])
			is(t, "Append", d.Append(f, "XY"), api.OK)
			has(t, d, f, s[:n]+"XY", s[:min(n, durable)])
			d.Crash([]int{9, 9, 9, 9, 9, 9, 9, 9})
			has(t, d, f, s[:n]+"XY", s[:n]+"XY")
		}
	}
	d := New()
	is(t, "Cut of an empty file", d.Cut(0, 0), api.OK)
	has(t, d, 0, "", "")
}

// P5.2: Cut to a length below 0 or above Size.
func TestCutInvalid(t *testing.T) {
	d := filled(t)
	is(t, "Append", d.Append(2, "gh"), api.OK)
	is(t, "Cut", d.Cut(3, 0), api.OK)
	for f, size := range []int{6, 6, 8, 0, 6, 6, 6, 6} {
		for _, n := range []int{-1, -2, -size - 1, math.MinInt, size + 1, size + 2, math.MaxInt} {
			is(t, fmt.Sprintf("Cut(%d, %d)", f, n), d.Cut(f, n), api.ErrArg)
		}
	}
	has(t, d, 2, "abcdefgh", "abc")
	has(t, d, 3, "", "")
	has(t, d, 7, "abcdef", "abc")
}

// P5.2: Turn of each file onto each other one replaces the one and empties the other, durably.
func TestTurn(t *testing.T) {
	for f := range 8 {
		for g := range 8 {
			if f == g {
				continue
			}
			d := filled(t)
			is(t, "Append", d.Append(g, "new"), api.OK)
			is(t, "Turn of a file that is not durable", d.Turn(f, g), api.ErrState)
			is(t, "Flush", d.Flush(g), api.OK)
			is(t, "Turn", d.Turn(f, g), api.OK)
			for h := range 8 {
				switch h {
				case f:
					has(t, d, h, "abcdefnew", "abcdefnew")
				case g:
					has(t, d, h, "", "")
				default:
					has(t, d, h, "abcdef", "abc")
				}
			}
			is(t, "Append to the emptied file", d.Append(g, "0123456789"), api.OK)
			is(t, "Append to the turned file", d.Append(f, "-"), api.OK)
			has(t, d, f, "abcdefnew-", "abcdefnew")
			has(t, d, g, "0123456789", "")
		}
	}
}

// P5.2: what Turn requires of the file g, and that it requires nothing of the file f.
func TestTurnStates(t *testing.T) {
	d := New()
	is(t, "Turn of two empty files", d.Turn(0, 1), api.OK)
	is(t, "Append", d.Append(0, "ab"), api.OK)
	is(t, "Turn of a file that was never flushed", d.Turn(1, 0), api.ErrState)
	has(t, d, 0, "ab", "")
	c := d.Copy()
	is(t, "Turn of an empty file onto one that is not durable", c.Turn(0, 1), api.OK)
	has(t, c, 0, "", "")
	c = d.Copy()
	is(t, "Cut of all that is not durable", c.Cut(0, 0), api.OK)
	is(t, "Turn", c.Turn(1, 0), api.OK)
	has(t, c, 1, "", "")
	is(t, "Flush", d.Flush(0), api.OK)
	is(t, "Append", d.Append(0, ""), api.OK)
	c = d.Copy()
	is(t, "Turn of an empty file onto a durable one", c.Turn(0, 1), api.OK)
	has(t, c, 0, "", "")
	is(t, "Append", d.Append(0, "c"), api.OK)
	is(t, "Turn with one byte that is not durable", d.Turn(1, 0), api.ErrState)
	d.Crash([]int{1})
	d.Start()
	is(t, "Turn of what a crash left", d.Turn(1, 0), api.OK)
	has(t, d, 1, "abc", "abc")
	is(t, "Turn back", d.Turn(0, 1), api.OK)
	has(t, d, 0, "abc", "abc")
	has(t, d, 1, "", "")
}

// P5.2: Turn of a file onto itself is an error, whatever the file is.
func TestTurnOntoItself(t *testing.T) {
	d := filled(t)
	is(t, "Flush", d.Flush(1), api.OK)
	is(t, "Cut", d.Cut(2, 0), api.OK)
	before, durable := contents(d), kept(d)
	for f := range 8 {
		is(t, "Turn", d.Turn(f, f), api.ErrArg)
	}
	if contents(d) != before || kept(d) != durable {
		t.Errorf("%q, durable %q, became %q, durable %q", before, durable, contents(d), kept(d))
	}
}

// invalid are calls with numbers of no file.
func invalid() []call {
	var l []call
	for _, f := range outside() {
		l = append(l, call{do: "append", f: f, s: "x"}, call{do: "append", f: f}, call{do: "read", f: f}, call{do: "flush", f: f}, call{do: "cut", f: f}, call{do: "cut", f: f, n: 3}, call{do: "turn", f: f}, call{do: "turn", f: f, n: f}, call{do: "turn", f: f, n: f + 1}, call{do: "turn", n: f}, call{do: "turn", f: 7, n: f})
	}
	return l
}

// P5.2: numbers of no file in every call, of a machine that is up and of one that is down.
func TestInvalidFiles(t *testing.T) {
	d := filled(t)
	d.Lose(2)
	fails := func(want api.Errno) {
		t.Helper()
		before, durable := contents(d), kept(d)
		for _, c := range invalid() {
			if s, e := c.on(d); s != "" || e != want {
				t.Errorf("%s = %q, %d; want %d", c, s, e, want)
			}
		}
		is(t, "Append of too much", d.Append(8, strings.Repeat("x", most+1)), want)
		if contents(d) != before || kept(d) != durable {
			t.Errorf("%q, durable %q, became %q, durable %q", before, durable, contents(d), kept(d))
		}
	}
	fails(api.ErrArg)
	is(t, "the first lost flush", d.Flush(0), api.ErrLost)
	is(t, "the second lost flush", d.Flush(0), api.ErrLost)
	is(t, "Flush", d.Flush(0), api.OK)
	d.Crash([]int{1, 2, 3})
	fails(api.ErrDown)
}

// valid are calls that change the files of filled if they are performed.
func valid() []call {
	return []call{{do: "append", s: "x"}, {do: "append"}, {do: "flush"}, {do: "cut"}, {do: "cut", n: 5}, {do: "turn", n: 1}}
}

// failing are calls that fail in filled, other than by the number of a file.
func failing() []call {
	long := strings.Repeat("x", most-5)
	return []call{{do: "append", s: long}, {do: "cut", n: -1}, {do: "cut", n: 7}, {do: "turn", n: 0}, {do: "turn", f: 1, n: 1}, {do: "turn", n: 2}}
}

// P5.2: while the machine is down, every call returns ErrDown and changes nothing.
func TestCallsWhileDown(t *testing.T) {
	d := filled(t)
	is(t, "Flush", d.Flush(1), api.OK)
	d.Lose(1)
	d.Crash([]int{2, 0, 1})
	before := contents(d)
	for _, c := range slices.Concat(valid(), failing(), invalid(), []call{{do: "read"}, {do: "read", f: 7}}) {
		if s, e := c.on(d); s != "" || e != api.ErrDown || !d.Down() {
			t.Errorf("%s = %q, %d, down: %t", c, s, e, d.Down())
		}
	}
	if contents(d) != before || before != [8]string{"abcde", "abcdef", "abcd", "abc", "abc", "abc", "abc", "abc"} {
		t.Errorf("%q became %q", before, contents(d))
	}
	d.Start()
	is(t, "the flush that is lost", d.Flush(0), api.ErrLost)
	is(t, "Flush", d.Flush(0), api.OK)
}

// P5.2 and P5.3: lost flushes leave the file as it is and are counted, whichever file they are of; another Lose replaces the number.
func TestLose(t *testing.T) {
	for n := -3; n <= 5; n++ {
		d := filled(t)
		d.Lose(9)
		d.Lose(n)
		for k := range max(n, 0) {
			is(t, "a lost flush", d.Flush(k%8), api.ErrLost)
			has(t, d, k%8, "abcdef", "abc")
		}
		is(t, "the flush after the lost ones", d.Flush(0), api.OK)
		is(t, "the next flush", d.Flush(7), api.OK)
		has(t, d, 0, "abcdef", "abcdef")
		has(t, d, 1, "abcdef", "abc")
		has(t, d, 7, "abcdef", "abcdef")
	}
	d := New()
	for _, n := range []int{math.MinInt, -1, 0} {
		d.Lose(3)
		d.Lose(n)
		is(t, "Flush", d.Flush(0), api.OK)
	}
	d.Lose(math.MaxInt)
	for range 100 {
		is(t, "a lost flush", d.Flush(0), api.ErrLost)
	}
}

// P5.2: other calls neither are lost nor decrease the number of lost flushes, and neither does a flush of no file.
func TestLoseIsOfFlushes(t *testing.T) {
	d := filled(t)
	is(t, "Flush", d.Flush(1), api.OK)
	d.Lose(1)
	is(t, "Append", d.Append(0, "x"), api.OK)
	is(t, "Cut", d.Cut(0, 2), api.OK)
	is(t, "Turn", d.Turn(0, 1), api.OK)
	is(t, "Flush of no file", d.Flush(8), api.ErrArg)
	has(t, d, 0, "abcdef", "abcdef")
	up(t, d, 0, "abcdef")
	is(t, "a lost flush", d.Flush(0), api.ErrLost)
	is(t, "Flush", d.Flush(0), api.OK)
}

// P5.3: the pending lost flushes outlast a crash, and Lose has its effect while the machine is down as well.
func TestLoseAndCrash(t *testing.T) {
	d := New()
	d.Lose(2)
	is(t, "a lost flush", d.Flush(0), api.ErrLost)
	d.Crash(nil)
	is(t, "Flush while the machine is down", d.Flush(0), api.ErrDown)
	d.Start()
	is(t, "a lost flush", d.Flush(0), api.ErrLost)
	is(t, "Flush", d.Flush(0), api.OK)
	d.Crash(nil)
	d.Lose(1)
	d.Start()
	is(t, "a lost flush", d.Flush(0), api.ErrLost)
	is(t, "Flush", d.Flush(0), api.OK)
}

// P5.3: what a crash keeps of the bytes abc, which are durable, and def, which are not.
func TestCrash(t *testing.T) {
	const s = "abcdef"
	for _, x := range []struct {
		keep []int
		want [8]int
	}{
		{nil, [8]int{3, 3, 3, 3, 3, 3, 3, 3}},
		{[]int{}, [8]int{3, 3, 3, 3, 3, 3, 3, 3}},
		{[]int{0}, [8]int{3, 3, 3, 3, 3, 3, 3, 3}},
		{[]int{1}, [8]int{4, 3, 3, 3, 3, 3, 3, 3}},
		{[]int{3, 2}, [8]int{6, 5, 3, 3, 3, 3, 3, 3}},
		{[]int{4, 5, 6, 1 << 40}, [8]int{6, 6, 6, 6, 3, 3, 3, 3}},
		{[]int{0, 1, 2, 3, 4, 3, 2, 1}, [8]int{3, 4, 5, 6, 6, 6, 5, 4}},
		{[]int{0, 0, 0, 0, 0, 0, 0, 2, 3, 3}, [8]int{3, 3, 3, 3, 3, 3, 3, 5}},
		{[]int{9, 9, 9, 9, 9, 9, 9, 9, 9, 9, 9, 9}, [8]int{6, 6, 6, 6, 6, 6, 6, 6}},
		{[]int{-1, 1, -2, -3, 2, -4, math.MinInt, -1}, [8]int{3, 4, 3, 3, 5, 3, 3, 3}},
		{[]int{math.MaxInt, math.MaxInt - 2, math.MaxInt - 3}, [8]int{6, 6, 6, 3, 3, 3, 3, 3}},
	} {
		d := filled(t)
		d.Crash(x.keep)
		if !d.Down() {
			t.Errorf("not down after Crash(%v)", x.keep)
		}
		for f, n := range x.want {
			has(t, d, f, s[:n], s[:n])
		}
		d.Crash([]int{9, 9, 9, 9, 9, 9, 9, 9})
		d.Start()
		for f, n := range x.want {
			up(t, d, f, s[:n])
			is(t, "Append", d.Append(f, "+"), api.OK)
			has(t, d, f, s[:n]+"+", s[:n])
		}
	}
}

// P5.3: a crash of files that are empty, of files that are durable, and of files of which nothing is.
func TestCrashOfOtherFiles(t *testing.T) {
	for n := range 5 {
		d := New()
		is(t, "Append", d.Append(1, "abc"), api.OK)
		is(t, "Flush", d.Flush(1), api.OK)
		is(t, "Append", d.Append(2, "abc"), api.OK)
		d.Crash([]int{n, n, n})
		has(t, d, 0, "", "")
		has(t, d, 1, "abc", "abc")
		has(t, d, 2, "abc"[:min(n, 3)], "abc"[:min(n, 3)])
	}
}

// P5.3: the example of the chapter.
func TestExample(t *testing.T) {
	d := New()
	is(t, "Append", d.Append(0, "12345"), api.OK)
	is(t, "Flush", d.Flush(0), api.OK)
	is(t, "Append", d.Append(0, "678"), api.OK)
	d.Crash([]int{1})
	if d.Size(0) != 6 {
		t.Errorf("the file has %d bytes", d.Size(0))
	}
	has(t, d, 0, "123456", "123456")
}

// P5.3: a crash of a machine that is down does nothing, and neither does a start of one that is up.
func TestCrashAndStartTwice(t *testing.T) {
	d := filled(t)
	d.Start()
	for f := range 8 {
		has(t, d, f, "abcdef", "abc")
	}
	d.Crash([]int{2})
	d.Arm(1, []int{1})
	d.Crash([]int{9, 9})
	has(t, d, 0, "abcde", "abcde")
	has(t, d, 1, "abc", "abc")
	d.Start()
	d.Start()
	is(t, "Append", d.Append(0, "xy"), api.ErrDown)
	has(t, d, 0, "abcdex", "abcdex")
}

// P5.4: a scheduled crash strikes each of the calls, in the first one and in later ones. Only of an Append the bytes come before it.
func TestArm(t *testing.T) {
	for n := 1; n <= 5; n++ {
		for _, c := range slices.Concat(valid(), failing(), invalid()) {
			if c.do == "read" {
				continue
			}
			x := newDisks(t)
			x.d = filled(t)
			for f := range 8 {
				x.m.bytes[f], x.m.durable[f] = "abcdef", "abc"
			}
			x.make(call{do: "flush", f: 1})
			x.make(call{do: "arm", n: n, keep: []int{2, 9, 1, -1}})
			for k := range n - 1 {
				x.make([]call{{do: "append", f: 5, s: "y"}, {do: "flush", f: 6}, {do: "cut", f: 4, n: 5}, {do: "turn", f: 3, n: 1}}[k])
			}
			x.compare()
			is(t, fmt.Sprintf("call %d, %s", n, c), x.make(c), api.ErrDown)
			x.compare()
			is(t, c.String(), x.make(c), api.ErrDown)
			x.make(call{do: "start"})
			x.make(c)
			x.make(c)
			x.compare()
		}
	}
}

// P5.4: what is left by a crash in each call, by hand.
func TestArmByHand(t *testing.T) {
	for _, x := range []struct {
		c          call
		zero, keep int
		want       string
	}{
		{call{do: "append", s: "ghi"}, 6, 0, "abc"},
		{call{do: "append", s: "ghi"}, 6, 2, "abcde"},
		{call{do: "append", s: "ghi"}, 6, 3, "abcdef"},
		{call{do: "append", s: "ghi"}, 6, 4, "abcdefg"},
		{call{do: "append", s: "ghi"}, 6, 9, "abcdefghi"},
		{call{do: "append"}, 6, 9, "abcdef"},
		{call{do: "append", s: strings.Repeat("x", most)}, 6, most, "abcdef"},
		{call{do: "append", f: 8, s: "ghi"}, 6, 9, "abcdef"},
		{call{do: "append", f: 1, s: "ghi"}, 6, 1, "abcd"},
		{call{do: "flush"}, 6, 0, "abc"},
		{call{do: "flush"}, 6, 1, "abcd"},
		{call{do: "cut"}, 6, 0, "abc"},
		{call{do: "cut"}, 6, 9, "abcdef"},
		{call{do: "cut", n: 4}, 6, 2, "abcde"},
		{call{do: "turn", n: 1}, 6, 2, "abcde"},
		{call{do: "turn", f: 1, n: 0}, 3, 2, "abc"},
	} {
		d := filled(t)
		is(t, "Flush", d.Flush(1), api.OK)
		is(t, "Cut", d.Cut(0, x.zero), api.OK)
		d.Arm(1, []int{x.keep})
		if s, e := x.c.on(d); s != "" || e != api.ErrDown || !d.Down() {
			t.Errorf("%s = %q, %d, down: %t", x.c, s, e, d.Down())
		}
		has(t, d, 0, x.want, x.want)
		has(t, d, 1, "abcdef", "abcdef")
		has(t, d, 2, "abc", "abc")
	}
}

// P5.4: an Append that would be too long by one byte appends nothing before the crash, and one that just fits appends all.
func TestArmOfFullFile(t *testing.T) {
	long := strings.Repeat("x", most-1)
	for _, s := range []string{"y", "yz"} {
		d := New()
		is(t, "Append", d.Append(0, long), api.OK)
		d.Arm(1, []int{most})
		is(t, "Append", d.Append(0, s), api.ErrDown)
		if want := (long + "y")[:most-len(s)+1]; contents(d)[0] != want {
			t.Errorf("%d bytes, want %d", d.Size(0), len(want))
		}
	}
}

// P5.4: the calls that fail count, and those that are no calls of Append, Flush, Cut and Turn or that are made while the machine is down do not.
func TestArmCounts(t *testing.T) {
	counted := []call{{do: "append", s: "x"}, {do: "append"}, {do: "flush"}, {do: "flush", f: 3}, {do: "cut"}, {do: "turn", n: 1}}
	for _, c := range slices.Concat(counted, failing(), invalid()) {
		if c.do == "read" {
			continue
		}
		for _, lost := range []int{0, 1} {
			d := filled(t)
			d.Lose(lost)
			d.Arm(2, nil)
			if _, e := c.on(d); e == api.ErrDown || d.Down() {
				t.Errorf("%s = %d in the first of two calls", c, e)
			}
			if _, e := c.on(d); e != api.ErrDown || !d.Down() {
				t.Errorf("%s = %d in the second of two calls", c, e)
			}
		}
	}
	d := filled(t)
	d.Arm(1, nil)
	for range 3 {
		for f := -1; f <= 8; f++ {
			d.Read(f)
			d.Size(f)
		}
		d.Down()
		d.Copy().Flush(0)
		d.Start()
		d.Lose(0)
	}
	is(t, "the first call", d.Flush(0), api.ErrDown)
	d.Arm(2, nil)
	for range 3 {
		for _, c := range slices.Concat(valid(), failing(), invalid()) {
			c.on(d)
		}
		d.Crash(nil)
	}
	d.Start()
	is(t, "the first call after the start", d.Flush(0), api.OK)
	is(t, "the second call after the start", d.Flush(0), api.ErrDown)
}

// P5.4: a flush that the crash strikes is not among the lost ones, and a lost one counts.
func TestArmAndLose(t *testing.T) {
	d := New()
	d.Lose(2)
	d.Arm(2, nil)
	is(t, "the first flush", d.Flush(0), api.ErrLost)
	is(t, "the second flush", d.Flush(0), api.ErrDown)
	d.Start()
	is(t, "the third flush", d.Flush(0), api.ErrLost)
	is(t, "the fourth flush", d.Flush(0), api.OK)
}

// P5.4: another schedule replaces the first one, also in what is kept, and none is left if n is less than 1 or after a crash.
func TestArmAgain(t *testing.T) {
	struck := func(d *Disk, calls int) {
		t.Helper()
		for k := 1; k < calls; k++ {
			is(t, fmt.Sprintf("call %d of %d", k, calls), d.Cut(0, 6), api.OK)
		}
		is(t, fmt.Sprintf("call %d", calls), d.Cut(0, 6), api.ErrDown)
	}
	for _, first := range []int{1, 2, 5} {
		for _, second := range []int{1, 2, 5} {
			d := filled(t)
			d.Arm(first, []int{1, 1, 1})
			d.Arm(second, []int{0, 2})
			struck(d, second)
			for f, s := range []string{"abc", "abcde", "abc"} {
				has(t, d, f, s, s)
			}
		}
		for _, n := range []int{0, -1, math.MinInt} {
			d := filled(t)
			d.Arm(first, []int{1})
			d.Arm(n, []int{1})
			for range 9 {
				is(t, "a call after the crash was cancelled", d.Cut(0, 6), api.OK)
			}
			has(t, d, 0, "abcdef", "abc")
		}
		d := filled(t)
		d.Arm(first, []int{1})
		d.Crash([]int{3})
		d.Start()
		for range 9 {
			is(t, "a call after another crash", d.Cut(0, 6), api.OK)
		}
		d.Arm(first, []int{1})
		struck(d, first)
		d.Start()
		for range 9 {
			is(t, "a call after the scheduled crash", d.Cut(0, 6), api.OK)
		}
	}
}

// P5.4: a schedule may be made while the machine is down, and then neither the calls until the start nor crashes of that machine affect it.
func TestArmWhileDown(t *testing.T) {
	d := filled(t)
	d.Crash(nil)
	d.Arm(2, []int{1})
	d.Flush(0)
	d.Crash([]int{5})
	d.Flush(0)
	d.Start()
	is(t, "the first call", d.Append(0, "xyz"), api.OK)
	is(t, "the second call", d.Flush(0), api.ErrDown)
	has(t, d, 0, "abcx", "abcx")
	d.Arm(1, []int{1})
	d.Arm(0, nil)
	d.Start()
	is(t, "a call without a schedule", d.Flush(0), api.OK)
}

// P5.4: the call of the greatest schedule is never reached, and the schedule can still be replaced.
func TestArmFarAway(t *testing.T) {
	d := New()
	d.Arm(math.MaxInt, nil)
	for range 1000 {
		is(t, "Append", d.Append(0, "x"), api.OK)
	}
	d.Arm(1000, nil)
	for range 999 {
		is(t, "Append", d.Append(0, "x"), api.OK)
	}
	is(t, "Append", d.Append(0, "x"), api.ErrDown)
}

// P5.3 and P5.4, with DOC.md's P3: a list is not changed, its elements behind its length are not read, and changes of it have no effect after the call.
func TestListsOfTheCaller(t *testing.T) {
	all := []int{1, 2, -3, 9, 9, 9, 9, 9, 9, 9}
	before := slices.Clone(all)
	want := [8]string{"abcd", "abcde", "abc", "abc", "abc", "abc", "abc", "abc"}
	d := filled(t)
	d.Crash(all[:3])
	if contents(d) != want || !slices.Equal(all, before) {
		t.Errorf("%q, %v", contents(d), all)
	}
	d = filled(t)
	d.Arm(2, all[:3])
	c := d.Copy()
	for k := range all {
		all[k] = 8
	}
	for _, d := range []*Disk{d, c} {
		is(t, "the first call", d.Cut(7, 6), api.OK)
		is(t, "the second call", d.Cut(7, 6), api.ErrDown)
		if contents(d) != want {
			t.Errorf("%q", contents(d))
		}
	}
	for _, n := range all {
		if n != 8 {
			t.Errorf("the list became %v", all)
		}
	}
}

// P5.2, with DOC.md's P3: a string that was read stays as it is.
func TestReadStays(t *testing.T) {
	d := filled(t)
	is(t, "Flush", d.Flush(1), api.OK)
	zero, _ := d.Read(0)
	one, _ := d.Read(1)
	is(t, "Cut", d.Cut(0, 1), api.OK)
	is(t, "Append", d.Append(0, "XXXXXXXX"), api.OK)
	is(t, "Turn", d.Turn(0, 1), api.OK)
	is(t, "Append", d.Append(1, "YYYYYYYY"), api.OK)
	d.Crash(nil)
	d.Start()
	is(t, "Cut", d.Cut(0, 0), api.OK)
	is(t, "Append", d.Append(0, "ZZZZZZZZ"), api.OK)
	if zero != "abcdef" || one != "abcdef" {
		t.Errorf("what was read became %q and %q", zero, one)
	}
}

// P5.1 to P5.4: all short sequences of calls on two files, compared with the model.
func TestAllShortSequences(t *testing.T) {
	calls := []call{
		{do: "append", f: 0, s: "ab"}, {do: "append", f: 1, s: "c"}, {do: "append", f: 8, s: "d"},
		{do: "flush", f: 0}, {do: "flush", f: 1},
		{do: "cut", f: 0, n: 1}, {do: "cut", f: 1, n: 0},
		{do: "turn", f: 0, n: 1}, {do: "turn", f: 1, n: 0},
		{do: "lose", n: 1}, {do: "crash", keep: []int{1, 1}}, {do: "start"},
		{do: "arm", n: 1, keep: []int{3}}, {do: "arm", n: 2}, {do: "arm", n: 0},
	}
	var grow func(x *disks, length int)
	grow = func(x *disks, length int) {
		x.compare()
		if length == 0 {
			return
		}
		for _, c := range calls {
			y := x.copy()
			y.make(c)
			grow(y, length-1)
		}
	}
	grow(newDisks(t), 4)
}

// anyKeep is a list of kept lengths: nil, too short, as long as there are files, or too long.
func anyKeep(g *rand.Rand) []int {
	var l []int
	for range g.Intn(11) {
		l = append(l, g.Intn(9)-2)
	}
	return l
}

// anyCall is a call that often succeeds on a disk whose files have the bytes.
func anyCall(g *rand.Rand, bytes [8]string) call {
	f := g.Intn(8)
	switch g.Intn(20) {
	case 0:
		f = g.Intn(3)*9 - 9
	case 1, 2, 3, 4, 5, 6, 7, 8, 9:
		f = g.Intn(2) * 7
	}
	c := call{f: f, n: g.Intn(9) - 1}
	switch k := g.Intn(100); {
	case k < 35:
		c.do, c.s = "append", strings.Repeat(string(rune('a'+g.Intn(26))), g.Intn(6))
	case k < 55:
		c.do = "flush"
	case k < 65:
		c.do, c.n = "cut", g.Intn(8)-1
		if f >= 0 && f < 8 {
			c.n = g.Intn(len(bytes[f])+3) - 1
		}
	case k < 77:
		c.do = "turn"
	case k < 83:
		c.do = "read"
	case k < 86:
		c.do, c.n = "lose", g.Intn(5)-1
	case k < 90:
		c.do, c.keep = "crash", anyKeep(g)
	case k < 96:
		c.do, c.n, c.keep = "arm", g.Intn(12)-1, anyKeep(g)
	default:
		c.do = "start"
	}
	return c
}

// P5.1 to P5.4: long sequences of arbitrary calls on disks and their copies, compared with the model.
func TestAnySequences(t *testing.T) {
	for seed := range int64(60) {
		g := rand.New(rand.NewSource(seed))
		l := []*disks{newDisks(t)}
		for range 400 {
			x := l[g.Intn(len(l))]
			c := anyCall(g, x.m.bytes)
			if x.m.down && g.Intn(3) == 0 {
				c = call{do: "start"}
			}
			x.make(c)
			if len(l) < 4 && g.Intn(50) == 0 {
				l = append(l, x.copy())
			}
			for _, x := range l {
				x.compare()
			}
		}
	}
}

// P5.5: whatever a crash keeps and whichever call it strikes, a file then starts with what was durable and is a prefix of what it contained.
func TestCrashesKeepPrefixes(t *testing.T) {
	g := rand.New(rand.NewSource(5))
	crashes := 0
	for range 3000 {
		d := New()
		for range g.Intn(40) {
			before, durable, down := contents(d), kept(d), d.Down()
			c := anyCall(g, before)
			if c.do == "arm" {
				c.n = 1 + g.Intn(3)
			}
			c.on(d)
			if down || !d.Down() {
				continue
			}
			crashes++
			if c.do == "append" && c.f >= 0 && c.f < 8 {
				before[c.f] += c.s
			}
			for f, s := range contents(d) {
				if !strings.HasPrefix(s, durable[f]) || !strings.HasPrefix(before[f], s) || kept(d)[f] != s {
					t.Fatalf("%s: file %d, %q, with %q durable, became %q", c, f, before[f], durable[f], s)
				}
			}
			d.Start()
		}
	}
	if crashes < 1000 {
		t.Errorf("only %d crashes", crashes)
	}
}

// P5.5: Turn is performed as a whole or not at all, in whichever of the calls that replace a file the crash strikes.
func TestTurnIsAtomic(t *testing.T) {
	for n := 1; n <= 6; n++ {
		for keep := range 5 {
			d := New()
			is(t, "Append", d.Append(0, "old"), api.OK)
			is(t, "Flush", d.Flush(0), api.OK)
			d.Arm(n, []int{keep, keep})
			results := []api.Errno{d.Cut(1, 0), d.Append(1, "newer"), d.Flush(1), d.Turn(0, 1), d.Flush(0)}
			for k, e := range results {
				want := api.OK
				if k+1 >= n {
					want = api.ErrDown
				}
				is(t, fmt.Sprintf("step %d with a crash in step %d", k+1, n), e, want)
			}
			zero, one := "old", ""
			switch n {
			case 1:
			case 2, 3:
				one = "newer"[:keep]
			case 4:
				one = "newer"
			default:
				zero = "newer"
			}
			has(t, d, 0, zero, zero)
			has(t, d, 1, one, one)
		}
	}
}
