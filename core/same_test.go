package core_test

import (
	"math"
	"reflect"
	"testing"

	"retroact/api"
	"retroact/core"
)

// differ checks that two programs are equal or not, in both orders.
func differ(t *testing.T, a, b api.Prog, want bool, message ...any) {
	t.Helper()
	if core.Same(a, b) == want || core.Same(b, a) == want {
		t.Error(append(message, "differ:", !want)...)
	}
}

// somePrograms are programs that together have each part, and some that are not valid.
func somePrograms(t *testing.T) []api.Prog {
	whole, _ := everyPart()
	odd := copied(whole)
	spoil(&odd)
	strange := copied(whole)
	parts(&strange, func(v reflect.Value) {
		if v.Kind() == reflect.Int {
			v.SetInt(math.MinInt)
		}
	})
	statement := api.Stmt{Op: -1, S: "S", T: "T", Xs: exprs("int1"), Then: block("stop"), Else: block("stop"), Arms: block("stop")}
	statement.Xs[0].S, statement.Xs[0].M = "S", 1
	bodies := api.Prog{Actors: []api.Actor{{On: []api.Handler{{Body: []api.Stmt{statement}}}}}}
	nameless := api.Prog{Types: []api.Decl{{}, {Ctors: []api.Ctor{{}, {Fields: []api.Field{{}, {}}}}}}, Effects: []api.Effect{{}}, Funs: []api.Fun{{}, {}}, Actors: []api.Actor{{}, {}}}
	return []api.Prog{{}, whole, base(), compiled(t, source), odd, strange, bodies, nameless}
}

// P11.1: programs are equal to copies of themselves, valid or not, and to no others.
func TestSamePrograms(t *testing.T) {
	for j, a := range somePrograms(t) {
		for k, b := range somePrograms(t) {
			differ(t, a, b, j != k, j, k)
		}
	}
}

// P11.1: two programs that differ in one number, string or bool, wherever it is, are not the same.
func TestSameFields(t *testing.T) {
	for k, p := range somePrograms(t) {
		other := copied(p)
		count := 0
		parts(&other, func(v reflect.Value) {
			switch v.Kind() {
			case reflect.Int:
				n := v.Int()
				for _, changed := range []int64{n + 1, n - 1, ^n} {
					v.SetInt(changed)
					differ(t, p, other, true, k, "with", changed, "instead of", n)
				}
				v.SetInt(n)
			case reflect.String:
				s := v.String()
				for _, changed := range []string{s + "x", "x" + s, s + s + "y"} {
					v.SetString(changed)
					differ(t, p, other, true, k, "with", changed, "instead of", s)
				}
				v.SetString(s)
			case reflect.Bool:
				v.SetBool(!v.Bool())
				differ(t, p, other, true, k, "with another bool")
				v.SetBool(!v.Bool())
			default:
				return
			}
			count++
		})
		differ(t, p, other, false, k)
		if k > 0 && count < 30 {
			t.Error("only", count, "fields of", k)
		}
	}
}

// P11.1: two programs are not the same if a list of one of them is shorter, longer or in another order; nil and empty lists are.
func TestSameLists(t *testing.T) {
	for k, p := range somePrograms(t) {
		other := copied(p)
		empty := 0
		parts(&other, func(v reflect.Value) {
			if v.Kind() != reflect.Slice {
				return
			}
			l := reflect.ValueOf(v.Interface())
			defer v.Set(l)
			if l.Len() == 0 {
				for _, nothing := range []reflect.Value{reflect.Zero(l.Type()), reflect.MakeSlice(l.Type(), 0, 0), reflect.MakeSlice(l.Type(), 2, 2).Slice(0, 0)} {
					v.Set(nothing)
					differ(t, p, other, false, k, "with another empty list")
				}
				v.Set(reflect.MakeSlice(l.Type(), 1, 1))
				differ(t, p, other, true, k, "with a list of one zero")
				empty++
				return
			}
			v.Set(reflect.Zero(l.Type()))
			differ(t, p, other, true, k, "without a list")
			v.Set(l.Slice(0, l.Len()-1))
			differ(t, p, other, true, k, "without the last one")
			longer := reflect.MakeSlice(l.Type(), l.Len()+1, l.Len()+1)
			reflect.Copy(longer, l)
			v.Set(longer)
			differ(t, p, other, true, k, "with a zero behind a list")
			longer.Index(l.Len()).Set(l.Index(l.Len() - 1))
			differ(t, p, other, true, k, "with the last one twice")
			first, last := copied(l.Index(0).Interface()), copied(l.Index(l.Len()-1).Interface())
			longer.Index(0).Set(reflect.ValueOf(last))
			longer.Index(l.Len() - 1).Set(reflect.ValueOf(first))
			v.Set(longer.Slice(0, l.Len()))
			differ(t, p, other, printed(first) != printed(last), k, "with the ends exchanged")
		})
		differ(t, p, other, false, k)
		if empty < 4 {
			t.Error("only", empty, "empty lists of", k)
		}
	}
}

// P11.1: whether two programs are the same does not depend on whether they are valid: two valid ones are the same exactly if their bytes are.
func TestSameAndBytes(t *testing.T) {
	var l []api.Prog
	for _, s := range validStatements() {
		l = append(l, withBody(block(s)))
	}
	for j, a := range l {
		for k, b := range l {
			differ(t, a, b, core.Bytes(a) != core.Bytes(b), j, k)
		}
	}
}
