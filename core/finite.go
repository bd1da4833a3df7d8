package core

import "retroact/api"

// waiting is a constructor with arguments of types that are not known to be finite.
type waiting struct {
	// owner is the type that is finite once all of them are.
	owner string
	// count is the number of these arguments.
	count int
}

// areFinite reports whether all declared types, which have distinct names, are finite.
func areFinite(l []api.Decl) bool {
	var found []string
	users := map[string][]*waiting{}
	for _, d := range l {
		for _, c := range d.Ctors {
			w := &waiting{owner: d.Name}
			for _, f := range c.Fields {
				if f.Type.Kind == api.TyNamed {
					users[f.Type.Name] = append(users[f.Type.Name], w)
					w.count++
				}
			}
			if w.count == 0 {
				found = append(found, d.Name)
			}
		}
	}
	finite := map[string]bool{}
	// found grows while each type that is found makes constructors of others complete.
	for next := 0; next < len(found); next++ {
		if finite[found[next]] {
			continue
		}
		finite[found[next]] = true
		for _, w := range users[found[next]] {
			w.count--
			if w.count == 0 {
				found = append(found, w.owner)
			}
		}
	}
	return len(finite) == len(l)
}
