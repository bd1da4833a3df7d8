package mean_test

import (
	"strconv"
	"strings"
	"testing"

	"retroact/api"
	"retroact/mean"
)

// speaker is a program whose handler has as many outputs of each kind as its arguments tell, and then another one.
const speaker = `
effect ask(): bool
actor Main() {
  on Ok(b: bool) { }
  on Go(s: [int], t: [int], u: [int], v: [int], last: int, n: int) {
    for x in s { send self Ok(true) } for x in t { after 1 send self Ok(true) } for x in u { spawn Main() } for x in v { do ask() then Ok }
    if last == 1 { send self Ok(false) } if last == 2 { after n send self Ok(false) } if last == 3 { spawn Main() } if last == 4 { spawn Main() on n } if last == 5 { do ask() then Ok }
    if last == 6 { let w = spawn Main() send w Ok(true) } if last == 7 { after n send self Ok(1 / 0 == 1) } if last == 8 { send self Ok(1 / 0 == 1) } if last == 9 { let w = spawn Main() on n }
  }
}`

// speak returns a call with numbers of outputs.
func speak(path string, kids int, counts []int, last, n int) api.Call {
	var args []api.Value
	for _, count := range counts {
		args = append(args, zeros(count))
	}
	return api.Call{Actor: "Main", Path: path, Kids: kids, Msg: "Go", Args: append(args, integer(last), integer(n))}
}

// P13.2: 64 outputs of all kinds together are possible, and the 65th is not.
func TestCountOfOutputs(t *testing.T) {
	p := compiled(t, speaker)
	for _, counts := range [][]int{{64, 0, 0, 0}, {0, 64, 0, 0}, {0, 0, 64, 0}, {0, 0, 0, 64}, {16, 16, 16, 16}, {1, 60, 2, 1}, {30, 0, 34, 0}, {0, 1, 0, 63}} {
		used := counts[0] + counts[1] + counts[2] + counts[3]
		r := mean.Run(p, speak("0", 0, counts, 0, 0))
		if len(r.Sends) != counts[0] || len(r.Timers) != counts[1] || len(r.Spawns) != counts[2] || len(r.Asks) != counts[3] || r.Fault != 0 || r.Used != used {
			t.Errorf("%v: %s", counts, shortened(r))
		}
		for last, want := range []int{0, api.FSize, api.FSize, api.FSize, api.FSize, api.FSize, api.FSize, api.FZero, api.FZero, api.FSize} {
			if last > 0 {
				gives(t, p, speak("0", 0, counts, last, 1), fails(want, used), counts, last)
			}
		}
		// A delay or a node out of range comes first.
		for _, last := range []int{2, 4, 9} {
			gives(t, p, speak("0", 0, counts, last, -1), fails(api.FIndex, used), counts, last)
		}
		// With one output less, the last one is the 64th.
		for k := range counts {
			if counts[k] == 0 {
				continue
			}
			fewer := append([]int{}, counts...)
			fewer[k]--
			for last, added := range []int{0, 1, 1, 1, 1, 1, 2, 0, 0, 1} {
				c := speak("0", 0, fewer, last, 1)
				r := mean.Run(p, c)
				total := len(r.Sends) + len(r.Timers) + len(r.Spawns) + len(r.Asks)
				switch {
				case last == 6:
					gives(t, p, c, fails(api.FSize, 63), fewer, last)
				case last == 7 || last == 8:
					gives(t, p, c, fails(api.FZero, 63), fewer, last)
				case r.Fault != 0 || total != 63+added:
					t.Errorf("%v and %d: %s", fewer, last, shortened(r))
				}
			}
		}
	}
	for _, counts := range [][]int{{65, 0, 0, 0}, {0, 65, 0, 0}, {0, 0, 65, 0}, {0, 0, 0, 65}, {64, 1, 1, 1}, {0, 64, 100, 1}, {100, 100, 100, 100}} {
		gives(t, p, speak("0", 0, counts, 0, 0), fails(api.FSize, 65), counts)
	}
}

// P13.2: delays and nodes at their bounds.
func TestRangesOfOutputs(t *testing.T) {
	p := compiled(t, speaker)
	none := []int{0, 0, 0, 0}
	for _, n := range []int{-api.MaxNum, -1 << 20, -2, -1, 0, 1, 2, 6, 7, 8, 9, 1000, 1<<20 - 1, 1 << 20, 1<<20 + 1, 1 << 32, 1<<32 + 1, api.MaxNum} {
		delay, node, other := mean.Run(p, speak("0", 0, none, 2, n)), mean.Run(p, speak("0", 0, none, 4, n)), mean.Run(p, speak("0", 0, none, 9, n))
		if 1 <= n && n <= 1<<20 {
			if len(delay.Timers) != 1 || delay.Timers[0].Ticks != n || delay.Fault != 0 {
				t.Errorf("the delay %d: %s", n, printed(delay))
			}
		} else if !mean.Same(delay, fails(api.FIndex, 0)) {
			t.Errorf("the delay %d: %s", n, printed(delay))
		}
		if 0 <= n && n <= 7 {
			if len(node.Spawns) != 1 || node.Spawns[0].Node != n || node.Fault != 0 || !mean.Same(node, other) {
				t.Errorf("the node %d: %s, %s", n, printed(node), printed(other))
			}
		} else if !mean.Same(node, fails(api.FIndex, 0)) || !mean.Same(other, node) {
			t.Errorf("the node %d: %s, %s", n, printed(node), printed(other))
		}
	}
}

// pathOf returns a path of a number of bytes.
func pathOf(length int) string {
	if length%2 == 1 {
		return "0" + strings.Repeat(".1", length/2)
	}
	return "0.12" + strings.Repeat(".1", length/2-2)
}

// P13.2: a new actor's path may have 200 bytes, and no more.
func TestLengthOfPaths(t *testing.T) {
	p := compiled(t, speaker)
	for _, c := range []struct{ length, kids, spawns, want int }{
		{197, 0, 1, 0}, {197, 10, 1, 0}, {197, 99, 1, 0}, {197, 100, 1, api.FSize}, {197, 1 << 40, 1, api.FSize}, {197, 99, 2, api.FSize}, {197, 98, 2, 0}, {197, 98, 3, api.FSize},
		{198, 0, 1, 0}, {198, 9, 1, 0}, {198, 10, 1, api.FSize}, {198, 9, 2, api.FSize}, {198, 0, 10, 0}, {198, 0, 11, api.FSize}, {199, 0, 1, api.FSize}, {200, 0, 1, api.FSize}, {200, 0, 0, 0}, {186, 1 << 40, 1, 0}, {187, 1 << 40, 1, api.FSize}, {186, 1<<40 - 1, 64, 0},
	} {
		path := pathOf(c.length)
		for _, last := range []int{0, 3, 4, 6, 9} {
			spawns := c.spawns
			if last > 0 {
				spawns--
			}
			if spawns < 0 {
				continue
			}
			r := mean.Run(p, speak(path, c.kids, []int{0, 0, spawns, 0}, last, 0))
			switch {
			case c.want != 0 && !mean.Same(r, fails(c.want, c.spawns-min(last, 1))):
				t.Errorf("%d bytes, %d and %d spawns: %s", len(path), c.kids, c.spawns, printed(r))
			case c.want == 0 && (r.Fault != 0 || len(r.Spawns) != c.spawns) && !(last == 6 && c.spawns == 64):
				t.Errorf("%d bytes, %d and %d spawns: %s", len(path), c.kids, c.spawns, printed(r))
			case c.want == 0 && last == 6 && c.spawns < 64 && r.Sends[0].To != path+"."+strconv.Itoa(c.kids+spawns):
				t.Errorf("%d bytes, %d and %d spawns: %s", len(path), c.kids, c.spawns, r.Sends[0].To)
			}
		}
		// A node out of range comes first.
		if c.want != 0 && c.spawns == 1 {
			gives(t, p, speak(path, c.kids, []int{0, 0, 0, 0}, 4, 8), fails(api.FIndex, 0), path)
		}
		// The other outputs do not depend on the path.
		gives(t, p, speak(path, c.kids, []int{0, 0, 0, 0}, 1, 0), api.Result{Sends: []api.Send{{To: path, Msg: "Ok", Args: plains("false")}}}, path)
	}
}
