package value_test

import (
	"math"
	"reflect"
	"strings"
	"testing"

	"retroact/api"
	"retroact/value"
)

// path checks a path, and a reference with it.
func path(t *testing.T, s string, want bool) {
	t.Helper()
	if got := value.Path(s); got != want {
		t.Errorf("%q is a path: %v, want %v", s, got, want)
	}
	if got := value.Right(reference("A", s)); got != want {
		t.Errorf("%q is valid in a reference: %v, want %v", s, got, want)
	}
}

// P12.1: paths by hand.
func TestPaths(t *testing.T) {
	for _, s := range []string{"0", "0.0", "0.1", "0.9", "0.10", "0.0.0", "0.12.3", "0.100.20.3", "0.9007199254740991", "0.9007199254740992", "0.9007199254740992.0.9007199254740992", "0.1000000000000000"} {
		path(t, s, true)
	}
	for _, s := range []string{
		"", ".", "..", ".0", "0.", "0..", "0..1", "0.1.", "0.1..2", ".0.1", "1", "2", "9", "00", "01", "10", "0 ", " 0", "0\n", "\x000", "0\x00", "o", "A", "0.a", "0.1a", "0.0x1", "a.0", "1.0", "00.1",
		"0.00", "0.01", "0.007", "0.1.02", "0.01.2", "-0", "+0", "0.-0", "0.+0", "0.-1", "0.+1", "-0.1", "0.1.-2", "0. 1", "0 .1", "0.1 ", " 0.1", "0.1 .2", "0,1", "0/1", "0.1,2", "0.1e3", "0.1_0", "0.\u0661", "\u0660", "0.\xb1", "0.\xff",
		"0.9007199254740993", "0.9007199254740992.9007199254740993", "0.9007199254740993.0", "0.9007199254740999", "0.10000000000000000", "0.09007199254740992", "0.-9007199254740992",
		"0.9223372036854775807", "0.9223372036854775808", "0.18446744073709551616", "0.18446744073709551617", "0.340282366920938463463374607431768211456", "0." + strings.Repeat("9", 198),
	} {
		path(t, s, false)
	}
}

// P12.1: a path has at most 200 bytes.
func TestLongPaths(t *testing.T) {
	for size, want := range map[int]bool{198: true, 199: true, 200: true, 201: false, 202: false, 203: false, 400: false, 1 << 16: false} {
		for _, step := range []string{".0", ".1", ".10", ".123", ".9007199254740992"} {
			// Steps of one and of two digits make up what is left.
			left := (size-1)%len(step) + 5*len(step)
			s := "0" + strings.Repeat(step, (size-1)/len(step)-5) + strings.Repeat(".12", left%2) + strings.Repeat(".7", (left-3*(left%2))/2)
			if len(s) != size {
				t.Fatal(len(s), "bytes instead of", size)
			}
			path(t, s, want)
		}
	}
	for _, s := range []string{strings.Repeat("0", 200), "0" + strings.Repeat(".", 199), "0" + strings.Repeat(".1", 99) + ".", "0" + strings.Repeat(".01", 66) + "1"} {
		path(t, s, false)
	}
}

// P12.1: all short strings of the bytes that matter.
func TestShortPaths(t *testing.T) {
	short("01.-9+", 6, func(s string) { path(t, s, modelPath(s)) })
}

// short calls a function with all strings of at most size bytes of an alphabet.
func short(alphabet string, size int, visit func(s string)) {
	visit("")
	var extend func(s string)
	extend = func(s string) {
		for k := range len(alphabet) {
			longer := s + alphabet[k:k+1]
			visit(longer)
			if len(longer) < size {
				extend(longer)
			}
		}
	}
	extend("")
}

// P12.1: each single byte as the first, a later and the last one of a step.
func TestBytesOfPaths(t *testing.T) {
	for c := range 256 {
		b := string([]byte{byte(c)})
		for _, s := range []string{b, "0" + b, "0." + b, "0.1" + b, "0.1" + b + "2", b + "0", "0" + b + "1"} {
			path(t, s, modelPath(s))
		}
	}
}

// P12.1: the values of all forms, at their bounds, at the top and within others.
func TestValid(t *testing.T) {
	for _, v := range valids() {
		if !value.Right(v) {
			t.Errorf("%s is not valid", shortened(v))
		}
		agree(t, v)
		for _, within := range containers() {
			agree(t, within(v))
		}
	}
}

// small are valid values of each form, with each field that the form mentions zero or not.
func small() []api.Value {
	return []api.Value{
		unit(), truth(0), truth(1), integer(0), integer(-3), integer(7), text(""), text("a"), list(), list(unit()), record("P"), record("P", unit()),
		variant("V", 0), variant("V", 3), variant("V", 0, unit()), variant("V", 3, unit()), reference("A", "0"), reference("A", "0.1"), closure(0), closure(2), closure(0, unit()), closure(2, unit()), span(0, 1), span(-1, 0), span(-2, 2),
	}
}

// P12.1: fields that a form does not mention are zero.
func TestUnusedFields(t *testing.T) {
	count := 0
	for _, v := range small() {
		fields := forms[v.Kind].fields
		for field, changes := range map[string][]func(v *api.Value){
			"T": {func(v *api.Value) { v.T = "P" }, func(v *api.Value) { v.T = "x" }, func(v *api.Value) { v.T = "\x00" }},
			"N": {func(v *api.Value) { v.N = 1 }, func(v *api.Value) { v.N = -1 }, func(v *api.Value) { v.N = math.MinInt }, func(v *api.Value) { v.N = 1 << 32 }},
			"M": {func(v *api.Value) { v.M = 1 }, func(v *api.Value) { v.M = -1 }, func(v *api.Value) { v.M = math.MaxInt }, func(v *api.Value) { v.M = 1 << 32 }},
			"S": {func(v *api.Value) { v.S = "0" }, func(v *api.Value) { v.S = "\x00" }, func(v *api.Value) { v.S = "0.1" }},
			"L": {func(v *api.Value) { v.L = []api.Value{unit()} }, func(v *api.Value) { v.L = make([]api.Value, 1) }},
		} {
			if strings.Contains(fields, field) {
				continue
			}
			for k, change := range changes {
				count++
				broken := copied(v)
				change(&broken)
				invalid(t, broken, field, k)
			}
		}
		v.L = append(v.L, []api.Value{}...)
		if v.L == nil {
			v.L = []api.Value{}
		}
		agree(t, v)
		if !value.Right(v) {
			t.Errorf("%s with a slice that is empty is not valid", printed(v))
		}
	}
	if count < 200 {
		t.Error("only", count, "cases")
	}
}

// invalid checks that a value is not valid, at the top and within others.
func invalid(t *testing.T, v api.Value, message ...any) {
	t.Helper()
	all := []api.Value{v}
	for _, within := range containers() {
		all = append(all, within(v), nested(v, containers()[0], within, containers()[1]), closure(1, v), closure(1, unit(), within(v)))
	}
	for _, x := range all {
		if value.Right(x) || value.Show(x) != "" || value.Bytes(x) != "" {
			t.Error(append([]any{shortened(x), "is valid;"}, message...)...)
		}
		agree(t, x)
	}
}

// P12.1: the bounds of the fields that a form mentions, by hand.
func TestBounds(t *testing.T) {
	long := strings.Repeat("x", api.MaxText+1)
	for k, v := range []api.Value{
		{}, {Kind: 11}, {Kind: -1}, {Kind: 12, T: "P"}, {Kind: 257}, {Kind: 1 << 32}, {Kind: 1<<32 + 1}, {Kind: math.MinInt}, {Kind: math.MaxInt},
		truth(2), truth(-1), truth(1 << 32), truth(1<<32 + 1), truth(math.MinInt),
		integer(api.MaxNum + 1), integer(-api.MaxNum - 1), integer(math.MaxInt), integer(math.MinInt), integer(1 << 60),
		text(long), text(long + long), list(many(api.MaxList+1, unit())...), list(many(api.MaxList+2, unit())...),
		record(""), record("p"), variant("", 0), variant("v", 0), reference("", "0"), reference("a", "0"),
		variant("V", -1), variant("V", 4097), variant("V", math.MinInt), variant("V", math.MaxInt), variant("V", 1<<32),
		reference("A", ""), reference("A", "1"), reference("A", "0."), reference("A", "0"+strings.Repeat(".1", 100)),
		closure(-1), closure(api.MaxNum + 1), closure(math.MinInt), closure(math.MaxInt),
		span(0, 0), span(1, 1), span(1, 0), span(-1, -1), span(5, -5), span(api.MaxNum, api.MaxNum), span(-api.MaxNum, -api.MaxNum), span(api.MaxNum, -api.MaxNum), span(api.MaxNum, api.MaxNum+1), span(-api.MaxNum-1, -api.MaxNum), span(-api.MaxNum-1, 0), span(0, api.MaxNum+1), span(math.MinInt, math.MaxInt), span(math.MinInt, 0), span(0, math.MaxInt),
	} {
		invalid(t, v, k)
	}
}

// P12.1: the names that are type names, and each byte at the beginning, in the middle and at the end of one.
func TestTypeNames(t *testing.T) {
	check := func(s string) {
		want := upperForm.MatchString(s)
		for _, v := range []api.Value{record(s), variant(s, 1), reference(s, "0"), record(s, unit()), list(variant(s, 0, record(s)))} {
			if value.Right(v) != want {
				t.Errorf("%q is a type name: %v", s, !want)
			}
			agree(t, v)
		}
	}
	for c := range 256 {
		b := string([]byte{byte(c)})
		for _, s := range []string{b, b + "x", "P" + b, "P" + b + "9"} {
			check(s)
		}
	}
	for _, s := range []string{"", "P", "Int", "Main", "P_", "P__9z", "PQ", "Z0", "A" + strings.Repeat("b_9", 3000), "P Q", "P.Q", " P", "P ", "P\n", "_P", "9P", "int", "self", "true", "\u00c4", "P\u00e4"} {
		check(s)
	}
}

// chain returns a value of so many nodes, each but the last of which has one element.
func chain(size int, last api.Value) api.Value {
	l := containers()[0]
	v := last
	for range size - 1 {
		v = l(v)
	}
	return v
}

// P12.1: a value has at most 16384 nodes, whatever its shape.
func TestManyNodes(t *testing.T) {
	for _, extra := range []int{0, 1} {
		for k, v := range []api.Value{
			record("P", many(api.MaxValue-1+extra, unit())...),
			variant("V", 2, many(api.MaxValue-1+extra, integer(5))...),
			closure(2, many(api.MaxValue-1+extra, span(1, 2))...),
			list(list(many(4095, unit())...), list(many(4095, unit())...), list(many(4095, unit())...), list(many(4094+extra, unit())...)),
			list(list(many(4094+extra, unit())...), list(many(4095, unit())...), list(many(4095, unit())...), list(many(4095, unit())...)),
			chain(api.MaxValue+extra, text("end")),
			chain(api.MaxValue+extra, record("P")),
			record("P", append(many(4095, record("P", truth(0), truth(1), list())), many(3+extra, unit())...)...),
		} {
			if got := value.Nodes(v); got != api.MaxValue+extra {
				t.Error(k, "has", got, "nodes")
			}
			if value.Right(v) != (extra == 0) {
				t.Error(k, "is valid:", extra != 0)
			}
			agree(t, v)
			// One node more, or one less.
			agree(t, list(v))
			agree(t, v.L[0])
		}
	}
}

// P12.1: one node that is not valid is found wherever it is.
func TestOneInvalidNode(t *testing.T) {
	for _, v := range valids() {
		if value.Nodes(v) > 100 {
			continue
		}
		broken := copied(v)
		parts(&broken, func(part reflect.Value) {
			node, ok := part.Addr().Interface().(*api.Value)
			if !ok {
				return
			}
			before := *node
			for _, wrong := range []api.Value{{}, integer(api.MaxNum + 1), {Kind: api.VUnit, S: "x"}, record("p")} {
				*node = wrong
				if value.Right(broken) {
					t.Errorf("%s is valid", shortened(broken))
				}
				agree(t, broken)
			}
			*node = before
		})
		agree(t, broken)
	}
	for _, last := range []api.Value{unit(), {}} {
		l := many(api.MaxList, unit())
		l[api.MaxList-1] = last
		agree(t, list(l...))
		agree(t, chain(api.MaxValue, last))
	}
}

// P1, P12.1: nodes are counted whether they are valid or not, and deep values end no function.
func TestNodes(t *testing.T) {
	for want, v := range map[int]api.Value{
		1: {}, 2: {Kind: -5, L: make([]api.Value, 1)}, 4: list(unit(), list(), text("abc")), 3: {Kind: api.VUnit, L: []api.Value{{L: []api.Value{{}}}}}, 6: {L: []api.Value{{}, {L: make([]api.Value, 3)}}}, 5001: {L: make([]api.Value, 5000)},
	} {
		if got := value.Nodes(v); got != want {
			t.Errorf("%s has %d nodes, want %d", shortened(v), got, want)
		}
	}
	const depth = 1 << 16
	deep := chain(depth, unit())
	if value.Nodes(deep) != depth || value.Right(deep) || value.Show(deep) != "" || value.Bytes(deep) != "" || !value.Equal(deep, deep) || value.Compare(deep, chain(depth, truth(0))) != -1 || value.Fits(api.Prog{}, deep, api.Type{Kind: api.TyUnit}) {
		t.Error("a deep value")
	}
}

// P1, P12.1: whether a value is valid is known after its first 16385 nodes, even if shared slices make it very large.
func TestSharedNodes(t *testing.T) {
	v := unit()
	for range 60 {
		v = list(v, v)
	}
	if value.Right(v) || value.Show(v) != "" || value.Bytes(v) != "" || value.Fits(api.Prog{}, v, api.Type{Kind: api.TyUnit}) || value.All(api.Prog{}, []api.Value{v}, []api.Field{{Type: api.Type{Kind: api.TyUnit}}}) {
		t.Error("a value of 2^61 nodes is valid")
	}
}
