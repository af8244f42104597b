package faces

import (
	"cmp"
	"slices"

	"giornata/api"
)

// pair is two points that an edge joins, or two faces that it parts.
type pair [2]int

// sorted returns a new list of the same items in ascending order.
func sorted[T any](l []T, compare func(a, b T) int) []T {
	out := slices.Clone(l)
	slices.SortFunc(out, compare)
	return out
}

func comparePoints(p, q api.Point) int {
	return cmp.Or(cmp.Compare(p.X, q.X), cmp.Compare(p.Y, q.Y))
}

func compareEdges(e, f api.Edge) int {
	return cmp.Or(cmp.Compare(e.A, f.A), cmp.Compare(e.B, f.B))
}

// joined returns, for each of n items, the least one to which pairs lead from it.
func joined(n int, pairs []pair) []int {
	least := make([]int, n)
	for i := range least {
		least[i] = i
	}
	root := func(i int) int {
		for least[i] != i {
			i = least[i]
		}
		return i
	}
	for _, p := range pairs {
		a, b := root(p[0]), root(p[1])
		least[max(a, b)] = min(a, b)
	}
	// An item leads to none that is greater, so those before it lead to their roots already.
	for i, next := range least {
		least[i] = least[next]
	}
	return least
}
