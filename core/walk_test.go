package core_test

import (
	"math/rand"
	"reflect"
	"strconv"
	"sync"
	"testing"

	"retroact/api"
	"retroact/core"
)

// walker changes programs in arbitrary ways.
type walker struct {
	*rand.Rand
	// parts are those of the program that is changed, by their types.
	parts map[reflect.Type][]reflect.Value
}

func (w *walker) collect(p *api.Prog) {
	w.parts = map[reflect.Type][]reflect.Value{}
	parts(p, func(v reflect.Value) { w.parts[v.Type()] = append(w.parts[v.Type()], v) })
}

// any returns an arbitrary part of a type, if there is one.
func (w *walker) any(t reflect.Type) (reflect.Value, bool) {
	l := w.parts[t]
	if len(l) == 0 {
		return reflect.Value{}, false
	}
	return l[w.Intn(len(l))], true
}

// kinds are values of the types of parts. Those that are changed more often occur more often.
func kinds() []any {
	var x api.Expr
	var s api.Stmt
	return []any{
		x, x, x, x, x, s, s, s, api.Type{}, api.Type{}, api.Field{}, api.Var{}, api.Handler{}, api.Ctor{}, api.Decl{}, api.Fun{}, api.Effect{}, api.Actor{}, 0, 0, 0, "", "", false,
		[]api.Expr{}, []api.Expr{}, []api.Stmt{}, []api.Stmt{}, []api.Type{}, []api.Field{}, []api.Var{}, []api.Handler{}, []api.Ctor{}, []api.Decl{}, []api.Fun{}, []api.Effect{}, []api.Actor{},
	}
}

// change changes an arbitrary part.
func (w *walker) change(p *api.Prog) {
	w.collect(p)
	l := kinds()
	v, found := w.any(reflect.TypeOf(l[w.Intn(len(l))]))
	if !found {
		return
	}
	switch v.Kind() {
	case reflect.Int:
		w.changeInt(v)
	case reflect.String:
		w.changeString(v)
	case reflect.Bool:
		v.SetBool(!v.Bool())
	case reflect.Slice:
		w.changeList(v)
	case reflect.Struct:
		w.changeStruct(v)
	}
}

func (w *walker) changeInt(v reflect.Value) {
	switch other, _ := w.any(v.Type()); w.Intn(6) {
	case 0:
		v.SetInt(v.Int() + 1)
	case 1:
		v.SetInt(v.Int() - 1)
	case 2:
		v.SetInt(int64(w.Intn(15)))
	case 3:
		v.SetInt([]int64{0, 0, 0, -1, 32768, 32769, 1 << 53, 1<<53 + 1, 1 << 62, -1 << 63}[w.Intn(10)])
	default:
		v.SetInt(other.Int())
	}
}

func (w *walker) changeString(v reflect.Value) {
	switch other, _ := w.any(v.Type()); w.Intn(5) {
	case 0:
		v.SetString("")
	case 1:
		v.SetString([]string{"new", "New", "len", "self", "if", "Main", "_", "a b"}[w.Intn(8)])
	case 2:
		v.SetString("x" + strconv.Itoa(w.Intn(100)))
	default:
		v.SetString(other.String())
	}
}

// changeList removes, adds or exchanges elements, or takes another list.
func (w *walker) changeList(v reflect.Value) {
	count, before := v.Len(), reflect.ValueOf(copiedValue(v))
	switch w.Intn(5) {
	case 0:
		if count > 0 {
			k := w.Intn(count)
			v.Set(reflect.AppendSlice(before.Slice3(0, k, k), before.Slice(k+1, count)))
		}
	case 1, 2:
		if x, found := w.any(v.Type().Elem()); found {
			k := w.Intn(count + 1)
			added := reflect.Append(before.Slice3(0, k, k), reflect.ValueOf(copiedValue(x)))
			v.Set(reflect.AppendSlice(added, before.Slice(k, count)))
		}
	case 3:
		if count > 1 {
			j, k := w.Intn(count), w.Intn(count)
			x, y := copiedValue(v.Index(j)), copiedValue(v.Index(k))
			v.Index(j).Set(reflect.ValueOf(y))
			v.Index(k).Set(reflect.ValueOf(x))
		}
	default:
		other, _ := w.any(v.Type())
		v.Set(reflect.ValueOf(copiedValue(other)))
	}
}

// copiedValue returns a copy of what a value holds.
func copiedValue(v reflect.Value) any {
	l := reflect.MakeSlice(reflect.SliceOf(v.Type()), 1, 1)
	l.Index(0).Set(v)
	copyWithin(l.Index(0))
	return l.Index(0).Interface()
}

// changeStruct replaces a part by another one, or an expression by one that contains it.
func (w *walker) changeStruct(v reflect.Value) {
	other, _ := w.any(v.Type())
	copy := copiedValue(other)
	if x, isExpr := v.Interface().(api.Expr); isExpr && w.Intn(3) > 0 {
		copy = w.around(copied(x), copied(other.Interface().(api.Expr)))
	}
	v.Set(reflect.ValueOf(copy))
}

// around returns an expression that has the type of x, in most cases, and contains it and another one.
func (w *walker) around(x, other api.Expr) api.Expr {
	slot := w.Intn(6)
	switch w.Intn(10) {
	case 0:
		return api.Expr{Op: api.XIf, Kids: []api.Expr{expr("bool1"), x, x}}
	case 1:
		return api.Expr{Op: api.XLet, N: slot, Kids: []api.Expr{other, x}}
	case 2:
		return api.Expr{Op: api.XLet, N: slot, Kids: []api.Expr{x, {Op: api.XLocal, N: slot}}}
	case 3:
		return api.Expr{Op: api.XPrim, N: api.PAt, Kids: []api.Expr{{Op: api.XList, Kids: []api.Expr{x, other}[:1+w.Intn(2)]}, expr("int0")}}
	case 4:
		return api.Expr{Op: api.XMatch, Kids: []api.Expr{other, {Op: api.XArm, N: w.Intn(4) - 1, M: slot, Kids: []api.Expr{x}}, {Op: api.XArm, N: -1, M: slot, Kids: []api.Expr{x}}}}
	case 5:
		return api.Expr{Op: api.XCat, Kids: []api.Expr{x, other}}
	case 6:
		return api.Expr{Op: api.XPrim, N: api.PPut, Kids: []api.Expr{x, expr("int0"), other}}
	case 7:
		return api.Expr{Op: api.XIf, Kids: []api.Expr{{Op: api.XEq + w.Intn(6), Kids: []api.Expr{other, other}}, x, x}}
	case 8:
		return api.Expr{Op: api.XWith, N: w.Intn(3), Kids: []api.Expr{x, other}}
	}
	return api.Expr{Op: api.XApply, Kids: []api.Expr{{Op: api.XFun, N: w.Intn(6), Kids: []api.Expr{x, other}[:w.Intn(3)]}, other}[:1+w.Intn(2)]}
}

// starts are programs from which walks start.
func starts(t *testing.T) []api.Prog {
	whole, _ := everyPart()
	l := []api.Prog{whole, base(), reaching(), compiled(t, source)}
	for _, s := range validStatements() {
		l = append(l, withBody(block(s)))
	}
	for _, r := range rows() {
		for _, s := range r.xs[:1] {
			if r.has != "" && len(s) < 1000 {
				l = append(l, inferring(expr(s), r.has))
			}
		}
	}
	return l
}

// walk goes from one valid program to another, and compares what it tries with the model. It returns how many programs were valid, and how many were not.
func walk(t *testing.T, p api.Prog, seed int64, steps int) (valid, invalid int) {
	w := &walker{Rand: rand.New(rand.NewSource(seed))}
	for range steps {
		q := copied(p)
		for range 1 + w.Intn(2)*w.Intn(2) {
			w.change(&q)
		}
		message := problem(q)
		if core.Right(q) != (message == "") {
			t.Fatalf("seed %d: valid: %v, %s\n%+v", seed, message != "", message, q)
		}
		if message != "" {
			invalid++
			if invalid%40 == 0 {
				right(t, q, false, seed)
			}
			continue
		}
		valid++
		if s := core.Bytes(q); s != serialized(q) || core.Same(p, q) != (s == serialized(p)) {
			t.Fatalf("seed %d: the bytes are %q: %+v", seed, s, q)
		}
		if valid%10 == 0 {
			right(t, q, true, seed)
			digestsAgree(t, q)
		}
		// Programs that grow too large are given up.
		if len(w.parts[reflect.TypeOf(0)]) < 1500 {
			p = q
		}
	}
	return valid, invalid
}

// P11.1 to P11.3, P11.5: arbitrary changes of valid programs lead to what the plain model of the chapter calls valid, with the bytes and digests of the model.
func TestWalks(t *testing.T) {
	const parts = 8
	var lock sync.Mutex
	valid, invalid := 0, 0
	t.Run("parts", func(t *testing.T) {
		for part := range parts {
			t.Run(strconv.Itoa(part), func(t *testing.T) {
				t.Parallel()
				for k, p := range starts(t) {
					if k%parts != part {
						continue
					}
					v, i := walk(t, p, int64(k), 600)
					lock.Lock()
					valid, invalid = valid+v, invalid+i
					lock.Unlock()
				}
			})
		}
	})
	t.Log(valid, "valid programs,", invalid, "others")
	if valid < 5000 || invalid < 10000 {
		t.Error("only", valid, "valid programs, and", invalid, "others")
	}
}
