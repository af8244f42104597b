package order

import (
	"cmp"
	"slices"

	"giornata/api"
)

// compareLists compares two lists by their length, then element by element.
func compareLists[T any](l, m []T, compare func(x, y T) int) int {
	return cmp.Or(cmp.Compare(len(l), len(m)), slices.CompareFunc(l, m, compare))
}

func comparePairs(x, y api.Pair) int { return cmp.Or(cmp.Compare(x.A, y.A), cmp.Compare(x.B, y.B)) }

// arePairs reports whether pairs are strictly ascending, and each one has two different patches of n.
func arePairs(n int, pairs []api.Pair) bool {
	for i, x := range pairs {
		if x.A < 0 || x.A >= n || x.B < 0 || x.B >= n || x.A == x.B {
			return false
		}
		if i > 0 && comparePairs(pairs[i-1], x) >= 0 {
			return false
		}
	}
	return true
}

// ascending returns the different ones of pairs, in ascending order, and in new memory.
func ascending(pairs []api.Pair) []api.Pair {
	out := slices.Clone(pairs)
	slices.SortFunc(out, comparePairs)
	return slices.Compact(out)
}

// neighbours returns two patches, the lesser one first.
func neighbours(p, q int) api.Pair { return api.Pair{A: min(p, q), B: max(p, q)} }
