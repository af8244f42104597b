package order

import (
	"cmp"
	"slices"

	"giornata/api"
)

// maxArcs is how many arcs a problem may have, of which all sets of arcs are looked at.
const maxArcs = 16

// Circle returns the first circle, if there is one.
func Circle(o api.Order) ([]int, bool) {
	g, e := open(o)
	if e != api.OK {
		return nil, false
	}
	var first []int
	for p := range g.N {
		l := g.circleFrom(p)
		if l != nil && (first == nil || compareLists(l, first, cmp.Compare[int]) < 0) {
			first = l
		}
	}
	return first, first != nil
}

// CheckCircle reports whether a list is a circle, from any of its patches on.
func CheckCircle(o api.Order, l []int) bool {
	g, e := open(o)
	if e != api.OK || len(l) < 2 {
		return false
	}
	if _, is := g.set(l); !is {
		return false
	}
	last := l[len(l)-1]
	for _, p := range l {
		if !g.after[last].has(p) {
			return false
		}
		last = p
	}
	return true
}

// Least returns the fewest arcs without which there is no circle, and of several such lists the first one.
func Least(o api.Order) ([]api.Pair, api.Errno) {
	g, e := open(o)
	if e != api.OK {
		return nil, e
	}
	if g.N > api.MaxWait || len(g.Arcs) > maxArcs {
		return nil, api.ErrLimit
	}
	least := slices.Clone(g.Arcs)
	for places := range single(len(g.Arcs)) {
		if places.size() > len(least) || g.afterWithout(places).chained(g.N).circular(g.N) {
			continue
		}
		var arcs []api.Pair
		for i := range places.patches() {
			arcs = append(arcs, g.Arcs[i])
		}
		if compareLists(arcs, least, comparePairs) < 0 {
			least = arcs
		}
	}
	return least, api.OK
}

// circleFrom returns the first circle whose least patch is a given one, if there is one.
// It looks at shorter lists first, and at lesser ones of the same length, so that a patch needs to be reached only once.
func (g graph) circleFrom(least int) []int {
	var circle []int
	seen := firstPatches(least + 1)
	waiting := [][]int{{least}}
search:
	for len(waiting) > 0 {
		l := waiting[0]
		waiting = waiting[1:]
		for p := range g.after[l[len(l)-1]].patches() {
			if p == least {
				circle = l
				break search
			}
			if !seen.has(p) {
				seen |= single(p)
				waiting = append(waiting, append(slices.Clone(l), p))
			}
		}
	}
	return circle
}

// afterWithout returns the patches that arcs lead to, without those arcs that have places in a set.
func (g graph) afterWithout(places set) links {
	var after links
	for i, x := range g.Arcs {
		if !places.has(i) {
			after[x.A] |= single(x.B)
		}
	}
	return after
}
