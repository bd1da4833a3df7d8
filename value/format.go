package value

import (
	"strings"

	"retroact/api"
	"retroact/num"
)

const (
	// escapes are the bytes that follow a backslash in the form of a text. Those that they then stand for have the same places in meanings.
	escapes  = "nt\"\\"
	meanings = "\n\t\"\\"
	// separator stands between two elements.
	separator = ", "
)

// formatter writes the forms of plain values.
type formatter struct{ strings.Builder }

func (w *formatter) value(v api.Value) {
	switch v.Kind {
	case api.VUnit:
		w.WriteString("()")
	case api.VBool:
		w.WriteString(boolWord(v.N))
	case api.VInt:
		w.WriteString(num.Text(v.N))
	case api.VText:
		w.text(v.S)
	case api.VList:
		w.list("[", v.L, "]")
	case api.VRec:
		w.WriteString(v.T)
		w.list("{", v.L, "}")
	case api.VVar:
		w.WriteString(v.T + "#" + num.Text(v.N))
		w.list("(", v.L, ")")
	case api.VRef:
		w.WriteString(v.T + "@" + v.S)
	}
}

func (w *formatter) text(s string) {
	w.WriteByte('"')
	for k := range len(s) {
		if place := strings.IndexByte(meanings, s[k]); place < 0 {
			w.WriteByte(s[k])
		} else {
			w.WriteByte('\\')
			w.WriteByte(escapes[place])
		}
	}
	w.WriteByte('"')
}

func (w *formatter) list(opening string, l []api.Value, closing string) {
	w.WriteString(opening)
	for k, x := range l {
		if k > 0 {
			w.WriteString(separator)
		}
		w.value(x)
	}
	w.WriteString(closing)
}

func boolWord(n int) string {
	if n == 0 {
		return "false"
	}
	return "true"
}
