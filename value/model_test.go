package value_test

import (
	"cmp"
	"encoding/binary"
	"math/big"
	"regexp"
	"slices"
	"strings"

	"retroact/api"
)

// The functions of this file follow the definitions of the chapter word by word, apart from the code under test.

var (
	pathForm  = regexp.MustCompile(`\A0(\.(0|[1-9][0-9]*))*\z`)
	upperForm = regexp.MustCompile(`\A[A-Z][A-Za-z0-9_]*\z`)
)

func modelPath(s string) bool {
	if len(s) > 200 || !pathForm.MatchString(s) {
		return false
	}
	for _, part := range strings.Split(s, ".") {
		if n, ok := new(big.Int).SetString(part, 10); !ok || n.Cmp(big.NewInt(1<<53)) > 0 {
			return false
		}
	}
	return true
}

// modelNodes lists the nodes of a value.
func modelNodes(v api.Value) []api.Value {
	l := []api.Value{v}
	for k := 0; k < len(l); k++ {
		l = append(l, l[k].L...)
	}
	return l
}

func modelRight(v api.Value) bool {
	l := modelNodes(v)
	return len(l) <= 16384 && !slices.ContainsFunc(l, func(v api.Value) bool { return !modelNode(v) })
}

func modelPlain(v api.Value) bool {
	return modelRight(v) && !slices.ContainsFunc(modelNodes(v), func(v api.Value) bool { return v.Kind == 9 || v.Kind == 10 })
}

// form is a form of valid nodes: the fields that it mentions, and the bounds of N, of M, of the length of S and of that of L.
type form struct {
	fields     string
	low, high  int
	bytes      int
	elements   int
	mLow, mMax int
}

var forms = map[int]form{
	1:  {},
	2:  {fields: "N", high: 1},
	3:  {fields: "N", low: -1 << 53, high: 1 << 53},
	4:  {fields: "S", bytes: 4096},
	5:  {fields: "L", elements: 4096},
	6:  {fields: "TL", elements: 1 << 62},
	7:  {fields: "TNL", high: 4096, elements: 1 << 62},
	8:  {fields: "TS", bytes: 200},
	9:  {fields: "NL", high: 1 << 53, elements: 1 << 62},
	10: {fields: "NM", low: -1 << 53, high: 1 << 53, mLow: -1 << 53, mMax: 1 << 53},
}

func modelNode(v api.Value) bool {
	f, known := forms[v.Kind]
	if !known || v.N < f.low || v.N > f.high || v.M < f.mLow || v.M > f.mMax || len(v.S) > f.bytes || len(v.L) > f.elements {
		return false
	}
	if strings.Contains(f.fields, "T") != upperForm.MatchString(v.T) || !strings.Contains(f.fields, "T") && v.T != "" {
		return false
	}
	return (v.Kind != 8 || modelPath(v.S)) && (v.Kind != 10 || v.N < v.M)
}

// token is a number or a string.
type token struct {
	n int
	s string
}

// modelTokens flattens a value. In the order of values, the sequences are in lexicographic order; before each element there is a 1, and behind the last one a 0.
func modelTokens(v api.Value) []token { return flatten(nil, v) }

func flatten(l []token, v api.Value) []token {
	l = append(l, token{n: v.Kind}, token{s: v.T}, token{n: v.N}, token{n: v.M}, token{s: v.S})
	for _, x := range v.L {
		l = flatten(append(l, token{n: 1}), x)
	}
	return append(l, token{n: 0})
}

func compareTokens(a, b token) int {
	return cmp.Or(cmp.Compare(a.n, b.n), strings.Compare(a.s, b.s))
}

func modelCompare(a, b api.Value) int {
	return slices.CompareFunc(modelTokens(a), modelTokens(b), compareTokens)
}

func equal(a, b api.Value) bool { return slices.Equal(modelTokens(a), modelTokens(b)) }

// textEscapes are those of the chapter.
var textEscapes = strings.NewReplacer("\n", `\n`, "\t", `\t`, `"`, `\"`, `\`, `\\`)

// modelForm formats any value as if it were plain.
func modelForm(v api.Value) string {
	var out strings.Builder
	modelWrite(&out, v)
	return out.String()
}

func modelWrite(out *strings.Builder, v api.Value) {
	n := big.NewInt(int64(v.N)).String()
	switch v.Kind {
	case 1:
		out.WriteString("()")
	case 2:
		out.WriteString(map[int]string{0: "false", 1: "true"}[v.N])
	case 3:
		out.WriteString(n)
	case 4:
		out.WriteString(`"` + textEscapes.Replace(v.S) + `"`)
	case 8:
		out.WriteString(v.T + "@" + v.S)
	}
	marks, hasElements := map[int][2]string{5: {"[", "]"}, 6: {v.T + "{", "}"}, 7: {v.T + "#" + n + "(", ")"}}[v.Kind]
	if !hasElements {
		return
	}
	out.WriteString(marks[0])
	for k, x := range v.L {
		out.WriteString(map[bool]string{false: "", true: ", "}[k > 0])
		modelWrite(out, x)
	}
	out.WriteString(marks[1])
}

// modelBytes serializes any value as if it were valid.
func modelBytes(v api.Value) string { return string(modelAppend(nil, v)) }

func modelAppend(b []byte, v api.Value) []byte {
	b = binary.AppendUvarint(b, uint64(v.Kind))
	b = append(binary.AppendUvarint(b, uint64(len(v.T))), v.T...)
	b = binary.AppendVarint(b, int64(v.N))
	b = binary.AppendVarint(b, int64(v.M))
	b = append(binary.AppendUvarint(b, uint64(len(v.S))), v.S...)
	b = binary.AppendUvarint(b, uint64(len(v.L)))
	for _, x := range v.L {
		b = modelAppend(b, x)
	}
	return b
}

// modelRead returns the valid value whose bytes are at the beginning of s, and their number. It reads a value whatever its encoding is, and compares.
func modelRead(s string) (v api.Value, size int, ok bool) {
	v, _ = looseRead([]byte(s))
	b := modelBytes(v)
	if !modelRight(v) || !strings.HasPrefix(s, b) {
		return api.Value{}, 0, false
	}
	return v, len(b), true
}

// looseRead reads a value of at most 16384 elements a list, and something wrong where there is none.
func looseRead(b []byte) (v api.Value, rest []byte) {
	number := func() int {
		n, size := binary.Uvarint(b)
		b = b[max(size, 0):]
		return int(n)
	}
	signed := func() int {
		n, size := binary.Varint(b)
		b = b[max(size, 0):]
		return int(n)
	}
	str := func() string {
		size := number()
		if size < 0 || size > len(b) {
			size = len(b)
		}
		s := string(b[:size])
		b = b[size:]
		return s
	}
	v = api.Value{Kind: number(), T: str(), N: signed(), M: signed(), S: str()}
	for count := number(); len(v.L) < count && len(b) > 0 && len(v.L) <= 16384; {
		var x api.Value
		x, b = looseRead(b)
		v.L = append(v.L, x)
	}
	return v, b
}

// modelType reports whether the names of a type are declared in p and it is formed.
func modelType(p api.Prog, t api.Type) bool {
	named := t.Kind == 6 || t.Kind == 7
	if t.Kind < 1 || t.Kind > 8 || named != upperForm.MatchString(t.Name) || !named && t.Name != "" {
		return false
	}
	for _, arg := range t.Args {
		if !modelType(p, arg) {
			return false
		}
	}
	switch t.Kind {
	case 5:
		return len(t.Args) == 1
	case 6:
		return len(t.Args) == 0 && slices.ContainsFunc(p.Types, func(d api.Decl) bool { return d.Name == t.Name })
	case 7:
		return len(t.Args) == 0 && slices.ContainsFunc(p.Actors, func(a api.Actor) bool { return a.Name == t.Name })
	case 8:
		return len(t.Args) >= 1
	}
	return len(t.Args) == 0
}

func modelAll(p api.Prog, vs []api.Value, fs []api.Field) bool {
	good := len(vs) == len(fs)
	for k := 0; good && k < len(vs); k++ {
		good = modelFits(p, vs[k], fs[k].Type)
	}
	return good
}

func modelFits(p api.Prog, v api.Value, t api.Type) bool {
	if !modelRight(v) || !modelType(p, t) {
		return false
	}
	switch t.Kind {
	case 3:
		return v.Kind == 3 || v.Kind == 10
	case 5:
		fs := make([]api.Field, len(v.L))
		for k := range fs {
			fs[k].Type = t.Args[0]
		}
		return v.Kind == 5 && modelAll(p, v.L, fs)
	case 6:
		for _, d := range p.Types {
			if d.Name == t.Name {
				return v.T == t.Name && v.Kind == map[bool]int{true: 6, false: 7}[d.Record] && v.N < len(d.Ctors) && modelAll(p, v.L, d.Ctors[v.N].Fields)
			}
		}
		return false
	case 7:
		return v.Kind == 8 && v.T == t.Name
	case 8:
		return v.Kind == 9 && v.N < len(p.Funs) && modelClosure(p, v, t)
	}
	return v.Kind == t.Kind
}

// modelClosure compares the types of the whole function with those of the captured values, which are those of the parameters, followed by those of the type.
func modelClosure(p api.Prog, v api.Value, t api.Type) bool {
	f := p.Funs[v.N]
	if len(f.Params) != len(v.L)+len(t.Args)-1 || !modelAll(p, v.L, f.Params[:len(v.L)]) {
		return false
	}
	want := []string{}
	for _, param := range f.Params[len(v.L):] {
		want = append(want, printed(param.Type))
	}
	want = append(want, printed(f.Result))
	got := []string{}
	for _, arg := range t.Args {
		got = append(got, printed(arg))
	}
	return slices.Equal(got, want)
}
