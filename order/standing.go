package order

import (
	"slices"

	"giornata/api"
)

// Standing returns how one patch stands to another one.
func Standing(o api.Order, a, b int) uint8 {
	g, e := open(o)
	if e != api.OK || !g.isPatch(a) || !g.isPatch(b) || a == b {
		return api.FreeNone
	}
	to, from := g.reach[a].has(b), g.reach[b].has(a)
	switch {
	case to && from:
		return api.FreeContrary
	case to:
		return api.FreeBefore
	case from:
		return api.FreeAfter
	}
	return api.FreeNone
}

// Levels returns for each patch how many arcs the longest chain has that ends with it.
func Levels(o api.Order) ([]int, api.Errno) {
	g, e := openOrdered(o)
	if e != api.OK {
		return nil, e
	}
	levels := make([]int, g.N)
	for _, p := range g.first() {
		for q := range g.before[p].patches() {
			levels[p] = max(levels[p], levels[q]+1)
		}
	}
	return levels, api.OK
}

// Close returns the problem with an arc wherever a chain leads from a patch to another one.
func Close(o api.Order) (api.Order, api.Errno) {
	g, e := open(o)
	if e != api.OK {
		return api.Order{}, e
	}
	var arcs []api.Pair
	for p := range g.N {
		for q := range g.reach[p].without(single(p)).patches() {
			arcs = append(arcs, api.Pair{A: p, B: q})
		}
	}
	return api.Order{N: o.N, Arcs: arcs, Near: slices.Clone(o.Near)}, api.OK
}

// Reduce returns the problem without the arcs that a longer chain makes needless.
func Reduce(o api.Order) (api.Order, api.Errno) {
	g, e := openOrdered(o)
	if e != api.OK {
		return api.Order{}, e
	}
	return api.Order{N: o.N, Arcs: slices.DeleteFunc(slices.Clone(o.Arcs), g.needless), Near: slices.Clone(o.Near)}, api.OK
}

// needless reports whether a chain of three patches or more leads where an arc does.
func (g graph) needless(arc api.Pair) bool {
	for p := range g.reach[arc.A].patches() {
		if g.reach[p].has(arc.B) {
			return true
		}
	}
	return false
}
