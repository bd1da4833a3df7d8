package value_test

import (
	"fmt"
	"slices"
	"strconv"
	"testing"

	"retroact/api"
	"retroact/code"
	"retroact/value"
)

// smallest finds values of the declared types of a program with the fewest nodes, beginning with none.
type smallest struct {
	program api.Prog
	found   map[string]api.Value
}

// of returns a smallest value of a type without functions, if it is known to have one.
func (s smallest) of(x api.Type) (api.Value, bool) {
	switch x.Kind {
	case api.TyUnit:
		return unit(), true
	case api.TyBool:
		return truth(0), true
	case api.TyInt:
		return integer(0), true
	case api.TyText:
		return text(""), true
	case api.TyList:
		return list(), true
	case api.TyRef:
		return reference(x.Name, "0"), true
	}
	v, ok := s.found[x.Name]
	return v, ok
}

// all returns smallest values of fields.
func (s smallest) all(fs []api.Field) ([]api.Value, bool) {
	var l []api.Value
	for _, f := range fs {
		v, ok := s.of(f.Type)
		if !ok {
			return nil, false
		}
		l = append(l, v)
	}
	return l, true
}

// find looks for smaller values until there are none. No value that is kept has more nodes than a slice can.
func (s smallest) find() {
	for changed := true; changed; {
		changed = false
		for _, d := range s.program.Types {
			for k, c := range d.Ctors {
				l, ok := s.all(c.Fields)
				v := api.Value{Kind: api.VVar, T: d.Name, N: k, L: l}
				if d.Record {
					v.Kind = api.VRec
				}
				known, found := s.found[d.Name]
				if !ok || value.Nodes(v) > 1<<17 || found && value.Nodes(known) <= value.Nodes(v) {
					continue
				}
				s.found[d.Name] = v
				changed = true
			}
		}
	}
}

// arbitraryProgram returns a program without functions, some of whose types may not be finite.
func (w walker) arbitraryProgram() api.Prog {
	p := api.Prog{Actors: []api.Actor{{Name: "Main"}, {Name: "Other"}}}
	count := 1 + w.Intn(6)
	for k := range count {
		d := api.Decl{Name: "T" + strconv.Itoa(k), Record: w.Intn(2) == 0}
		ctors := 1 + w.Intn(3)
		if d.Record {
			ctors = 1
		}
		for c := range ctors {
			d.Ctors = append(d.Ctors, api.Ctor{Name: fmt.Sprint("C", k, "_", c), Fields: w.arbitraryFields(count)})
		}
		p.Types = append(p.Types, d)
	}
	return p
}

func (w walker) arbitraryFields(declared int) []api.Field {
	var l []api.Field
	for k := range w.Intn(4) {
		l = append(l, api.Field{Name: "f" + strconv.Itoa(k), Type: w.arbitraryType(declared, 2)})
	}
	return l
}

// arbitraryType returns a type without functions that uses some of the declared types T0, T1, ...
func (w walker) arbitraryType(declared, depth int) api.Type {
	switch kind := 1 + w.Intn(7); {
	case kind == api.TyList && depth > 0:
		return api.Type{Kind: kind, Args: []api.Type{w.arbitraryType(declared, depth-1)}}
	case kind == api.TyNamed:
		return api.Type{Kind: kind, Name: "T" + strconv.Itoa(w.Intn(declared))}
	case kind == api.TyRef:
		return api.Type{Kind: kind, Name: pick(w, "Main", "Other")}
	default:
		return api.Type{Kind: 1 + kind%4}
	}
}

// P12.6: a value that belongs to a type is valid, and each finite type without functions has a plain value, which can be shown, parsed, written and read.
func TestFiniteTypes(t *testing.T) {
	finite, others := 0, 0
	for seed := range int64(3000) {
		w := newWalker(seed)
		p := w.arbitraryProgram()
		s := smallest{p, map[string]api.Value{}}
		s.find()
		for _, d := range p.Types {
			x := api.Type{Kind: api.TyNamed, Name: d.Name}
			v, ok := s.of(x)
			if !ok {
				others++
				continue
			}
			finite++
			plainValue(t, p, v, x)
			plainValue(t, p, list(v, v), api.Type{Kind: api.TyList, Args: []api.Type{x}})
		}
	}
	if finite < 3000 || others < 300 {
		t.Error("only", finite, "finite types and", others, "others")
	}
}

// plainValue checks that a plain value belongs to a type.
func plainValue(t *testing.T, p api.Prog, v api.Value, x api.Type) {
	t.Helper()
	form, b := value.Show(v), value.Bytes(v)
	again, parsed := value.Parse(form)
	copied, read := value.Read(code.Open(b))
	if !value.Fits(p, v, x) || !value.Right(v) || form == "" || b == "" || !parsed || !read || !value.Equal(again, v) || !value.Equal(copied, v) {
		t.Errorf("%s is no plain value of %s", shortened(v), shortened(x))
	}
}

// P12.6: types whose smallest values have as many nodes as a value can have, or more.
func TestLargeTypes(t *testing.T) {
	for _, extra := range []int{-1, 0, 1} {
		p := api.Prog{Types: []api.Decl{
			{Name: "T0", Record: true, Ctors: []api.Ctor{{Name: "T0", Fields: make([]api.Field, api.MaxValue-1+extra)}}},
			{Name: "T1", Ctors: []api.Ctor{{Name: "C", Fields: slices.Repeat([]api.Field{{Type: typ("T2")}}, 3)}, {Name: "D", Fields: fields("T1")}}},
			{Name: "T2", Record: true, Ctors: []api.Ctor{{Name: "T2", Fields: make([]api.Field, (api.MaxValue-4)/3+extra)}}},
		}}
		for _, k := range []int{0, 2} {
			for j := range p.Types[k].Ctors[0].Fields {
				p.Types[k].Ctors[0].Fields[j] = api.Field{Name: "f" + strconv.Itoa(j), Type: typ("int")}
			}
		}
		s := smallest{p, map[string]api.Value{}}
		s.find()
		for name, v := range s.found {
			x := api.Type{Kind: api.TyNamed, Name: name}
			if value.Nodes(v) <= api.MaxValue {
				plainValue(t, p, v, x)
			} else if value.Fits(p, v, x) || value.Right(v) {
				t.Errorf("%s has a value of %d nodes", name, value.Nodes(v))
			}
		}
		if got := value.Nodes(s.found["T0"]); got != api.MaxValue+extra {
			t.Error("T0 has", got, "nodes")
		}
	}
}

// P12.4, P12.6: arbitrary values, of a type and changed, against the model, in arbitrary programs.
func TestFitsWalks(t *testing.T) {
	good, bad := 0, 0
	for seed := range int64(3000) {
		w := newWalker(seed)
		p := w.arbitraryProgram()
		declared := len(p.Types)
		s := smallest{p, map[string]api.Value{}}
		s.find()
		for range w.Intn(3) {
			p.Funs = append(p.Funs, api.Fun{Params: w.arbitraryFields(declared), Result: w.arbitraryType(declared, 1)})
		}
		x := w.anyType(p)
		v := w.belonging(s, p, x, 3)
		for range 12 {
			want := modelFits(p, v, x)
			if got := value.Fits(p, v, x); got != want {
				t.Errorf("%s belongs to %s in %s: %v", shortened(v), shortened(x), printed(p), got)
			}
			fs := []api.Field{{Type: x}, {Type: w.arbitraryType(declared, 1)}}
			vs := []api.Value{v, w.belonging(s, p, fs[1].Type, 2)}
			if value.All(p, vs, fs) != modelAll(p, vs, fs) {
				t.Errorf("%s belong to %s: %v", shortened(vs), shortened(fs), value.All(p, vs, fs))
			}
			if want {
				good++
			} else {
				bad++
			}
			switch w.Intn(8) {
			case 0:
				x = w.anyType(p)
			case 1, 2:
				w.change(&v)
			case 3:
				p = w.changedProgram(p)
			default:
				v = w.belonging(s, p, x, 3)
			}
		}
	}
	if good < 10000 || bad < 5000 {
		t.Error("only", good, "values of types and", bad, "others")
	}
}

// anyType returns a type, often that of a function of p with some of its parameters captured.
func (w walker) anyType(p api.Prog) api.Type {
	if len(p.Funs) == 0 || w.Intn(2) == 0 {
		return w.arbitraryType(len(p.Types), 2)
	}
	f := pick(w, p.Funs...)
	x := api.Type{Kind: api.TyFun}
	for _, param := range f.Params[w.Intn(len(f.Params)+1):] {
		x.Args = append(x.Args, param.Type)
	}
	x.Args = append(x.Args, f.Result)
	if w.Intn(4) == 0 {
		return api.Type{Kind: api.TyList, Args: []api.Type{x}}
	}
	return x
}

// belonging returns a value that belongs to a type, if one is found.
func (w walker) belonging(s smallest, p api.Prog, x api.Type, depth int) api.Value {
	switch x.Kind {
	case api.TyInt:
		return pick(w, integer(w.Intn(100)), span(0, 3))
	case api.TyList:
		var l []api.Value
		for range w.Intn(3) {
			l = append(l, w.belonging(s, p, x.Args[0], depth-1))
		}
		return list(l...)
	case api.TyFun:
		return w.closureOf(s, p, x, depth)
	case api.TyNamed:
		for _, d := range p.Types {
			if d.Name == x.Name && depth > 0 && len(d.Ctors) > 0 {
				return w.declared(s, p, d, depth)
			}
		}
	}
	v, _ := s.of(x)
	return copied(v)
}

func (w walker) declared(s smallest, p api.Prog, d api.Decl, depth int) api.Value {
	k := w.Intn(len(d.Ctors))
	v := api.Value{Kind: api.VVar, T: d.Name, N: k}
	if d.Record {
		v.Kind = api.VRec
	}
	for _, f := range d.Ctors[k].Fields {
		v.L = append(v.L, w.belonging(s, p, f.Type, depth-1))
	}
	return v
}

func (w walker) closureOf(s smallest, p api.Prog, x api.Type, depth int) api.Value {
	for k, f := range p.Funs {
		captured := len(f.Params) - len(x.Args) + 1
		if captured < 0 || w.Intn(3) == 0 {
			continue
		}
		v := closure(k)
		for _, param := range f.Params[:captured] {
			v.L = append(v.L, w.belonging(s, p, param.Type, depth-1))
		}
		if modelFits(p, v, x) {
			return v
		}
	}
	return closure(w.Intn(len(p.Funs) + 2))
}

// changedProgram returns a copy of p with another type, field, constructor or name.
func (w walker) changedProgram(p api.Prog) api.Prog {
	p = copied(p)
	declared := len(p.Types)
	d := &p.Types[w.Intn(declared)]
	switch w.Intn(6) {
	case 0:
		d.Name = pick(w, "T0", "T1", "t", "")
	case 1:
		d.Record = !d.Record
	case 2:
		d.Ctors = d.Ctors[:w.Intn(len(d.Ctors)+1)]
	case 3:
		d.Ctors = append(d.Ctors, api.Ctor{Name: "New", Fields: w.arbitraryFields(declared + 2)})
	case 4:
		if len(d.Ctors) > 0 {
			d.Ctors[0].Fields = w.arbitraryFields(declared + 2)
		}
	default:
		p.Funs = append([]api.Fun{{Params: w.arbitraryFields(declared), Result: w.arbitraryType(declared, 1)}}, p.Funs...)
	}
	return p
}
