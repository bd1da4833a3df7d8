package value_test

import (
	"regexp"
	"strconv"
	"strings"

	"retroact/api"
)

// A form of a plain value is an atom, or a list of forms between an opening and a closing mark.
var (
	integerForm   = regexp.MustCompile(`\A(0|-?[1-9][0-9]*)\z`)
	textForm      = regexp.MustCompile(`\A"([^"\\\n\t]|\\["\\nt])*"\z`)
	referenceForm = regexp.MustCompile(`\A([A-Z][A-Za-z0-9_]*)@([0-9.]*)\z`)
	listForm      = regexp.MustCompile(`(?s)\A()()\[(.*)\]\z`)
	recordForm    = regexp.MustCompile(`(?s)\A([A-Z][A-Za-z0-9_]*)()\{(.*)\}\z`)
	variantForm   = regexp.MustCompile(`(?s)\A([A-Z][A-Za-z0-9_]*)#(0|[1-9][0-9]*)\((.*)\)\z`)
)

func modelParses(s string) bool {
	_, ok := modelParse(s)
	return ok
}

// modelParse returns the plain value with a form. It cuts a form at the separators that lie within no other marks.
func modelParse(s string) (api.Value, bool) {
	v, ok := looseParse(s)
	if !ok || !modelPlain(v) || modelForm(v) != s {
		return api.Value{}, false
	}
	return v, true
}

func looseParse(s string) (api.Value, bool) {
	switch {
	case s == "()":
		return unit(), true
	case s == "false":
		return truth(0), true
	case s == "true":
		return truth(1), true
	case integerForm.MatchString(s):
		n, err := strconv.ParseInt(s, 10, 64)
		return integer(int(n)), err == nil
	case textForm.MatchString(s):
		return text(strings.NewReplacer(`\n`, "\n", `\t`, "\t", `\"`, `"`, `\\`, `\`).Replace(s[1 : len(s)-1])), true
	case referenceForm.MatchString(s):
		part := referenceForm.FindStringSubmatch(s)
		return reference(part[1], part[2]), true
	}
	for kind, pattern := range map[int]*regexp.Regexp{api.VList: listForm, api.VRec: recordForm, api.VVar: variantForm} {
		if part := pattern.FindStringSubmatch(s); part != nil {
			n, _ := strconv.Atoi(part[2])
			l, ok := looseElements(part[3])
			return api.Value{Kind: kind, T: part[1], N: n, L: l}, ok
		}
	}
	return api.Value{}, false
}

func looseElements(s string) ([]api.Value, bool) {
	if s == "" {
		return nil, true
	}
	var l []api.Value
	for _, piece := range cut(s) {
		v, ok := looseParse(piece)
		if !ok {
			return nil, false
		}
		l = append(l, v)
	}
	return l, true
}

// cut cuts a string at each comma with a space that lies outside of texts and brackets.
func cut(s string) []string {
	var l []string
	start, depth, quoted := 0, 0, false
	for k := 0; k < len(s); k++ {
		switch {
		case quoted && s[k] == '\\':
			k++
		case s[k] == '"':
			quoted = !quoted
		case quoted:
		case strings.IndexByte("([{", s[k]) >= 0:
			depth++
		case strings.IndexByte(")]}", s[k]) >= 0:
			depth--
		case depth == 0 && strings.HasPrefix(s[k:], ", "):
			l = append(l, s[start:k])
			start = k + 2
		}
	}
	return append(l, s[start:])
}
