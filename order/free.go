package order

import (
	"slices"

	"giornata/api"
)

// matching has for each patch the next one in its list, or -1.
type matching [api.MaxCells]int

// Free returns the first of the greatest sets of patches of which no two are connected by a chain.
func Free(o api.Order) ([]int, api.Errno) {
	g, e := openOrdered(o)
	if e != api.OK {
		return nil, e
	}
	var free []int
	left := g.all()
	for width := g.width(left); width > 0; width-- {
		for p := range left.patches() {
			rest := g.unconnected(p, left.without(firstPatches(p+1)))
			if g.width(rest) == width-1 {
				free, left = append(free, p), rest
				break
			}
		}
	}
	return free, api.OK
}

// Chains returns as few lists as possible that have each patch once, with a chain from each patch to the next one.
func Chains(o api.Order) ([][]int, api.Errno) {
	g, e := openOrdered(o)
	if e != api.OK {
		return nil, e
	}
	var chains [][]int
	next, starts := g.match(g.all())
	for p := range starts.patches() {
		chains = append(chains, next.listFrom(p))
	}
	return chains, api.OK
}

// CheckFree reports whether free patches and chains show that there are no more of the one and no fewer of the other.
func CheckFree(o api.Order, free []int, chains [][]int) bool {
	g, e := openOrdered(o)
	if e != api.OK || len(free) != len(chains) || !slices.IsSorted(free) {
		return false
	}
	s, is := g.set(free)
	return is && g.areFree(s) && g.areChains(chains)
}

// width returns how many patches of a set can be free of one another: as many as the fewest lists of chains.
func (g graph) width(s set) int {
	_, starts := g.match(s)
	return starts.size()
}

// match returns the next patches in the fewest lists of the patches of a set, and the patches that begin the lists.
func (g graph) match(s set) (matching, set) {
	var next matching
	for p := range next {
		next[p] = -1
	}
	var seen, starts set
	var join func(q int) bool
	join = func(q int) bool {
		for p := range s.patches() {
			if seen.has(p) || !g.reach[p].has(q) {
				continue
			}
			seen |= single(p)
			if next[p] < 0 || join(next[p]) {
				next[p] = q
				return true
			}
		}
		return false
	}
	for q := range s.patches() {
		seen = 0
		if !join(q) {
			starts |= single(q)
		}
	}
	return next, starts
}

// listFrom returns the list that begins with a patch.
func (m matching) listFrom(p int) []int {
	l := []int{p}
	for m[p] >= 0 {
		p = m[p]
		l = append(l, p)
	}
	return l
}

// unconnected returns those patches of a set that no chain connects with another patch.
func (g graph) unconnected(p int, s set) set {
	free := s.without(g.reach[p])
	for q := range s.patches() {
		if g.reach[q].has(p) {
			free = free.without(single(q))
		}
	}
	return free
}

// areFree reports whether no two patches of a set are connected by a chain, where there is no circle.
func (g graph) areFree(s set) bool {
	for p := range s.patches() {
		if g.reach[p]&s != 0 {
			return false
		}
	}
	return true
}

// areChains reports whether lists have each patch once, with a chain from each patch to the next one.
func (g graph) areChains(chains [][]int) bool {
	var seen set
	for _, l := range chains {
		s, is := g.set(l)
		if !is || s == 0 || s&seen != 0 {
			return false
		}
		for i := 1; i < len(l); i++ {
			if !g.reach[l[i-1]].has(l[i]) {
				return false
			}
		}
		seen |= s
	}
	return seen == g.all()
}
