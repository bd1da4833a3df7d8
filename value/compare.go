package value

import (
	"cmp"

	"retroact/api"
)

// compareNodes compares two values apart from their elements.
func compareNodes(a, b api.Value) int {
	return cmp.Or(cmp.Compare(a.Kind, b.Kind), cmp.Compare(a.T, b.T), cmp.Compare(a.N, b.N), cmp.Compare(a.M, b.M), cmp.Compare(a.S, b.S))
}

// compareLists compares two lists by their first elements that differ. A proper prefix comes first.
func compareLists[T any](a, b []T, compare func(a, b T) int) int {
	for k := range min(len(a), len(b)) {
		if order := compare(a[k], b[k]); order != 0 {
			return order
		}
	}
	return cmp.Compare(len(a), len(b))
}
