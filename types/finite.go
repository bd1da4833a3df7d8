package types

import "retroact/api"

// waiting is a constructor with arguments of types that are not known to be finite.
type waiting struct {
	// owner is the type that is finite once all of them are.
	owner string
	// count is the number of these arguments.
	count int
}

// finiteTypes returns the names of the declared types that are finite.
func finiteTypes(l []api.Decl) names {
	var found []string
	users := map[string][]*waiting{}
	for _, d := range l {
		for _, c := range d.Ctors {
			w := &waiting{owner: d.Name}
			for _, f := range c.Fields {
				if f.Type.Kind == api.TyNamed {
					users[f.Type.Name] = append(users[f.Type.Name], w)
					w.count++
				}
			}
			if w.count == 0 {
				found = append(found, d.Name)
			}
		}
	}
	finite := names{}
	// found grows while each type that is found makes constructors of others complete.
	for next := 0; next < len(found); next++ {
		name := found[next]
		if finite[name] {
			continue
		}
		finite[name] = true
		for _, w := range users[name] {
			w.count--
			if w.count == 0 {
				found = append(found, w.owner)
			}
		}
	}
	return finite
}
