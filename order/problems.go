// Package order finds what has to be laid before what: contradictions, all orders, free patches, and the days of drying.
package order

import (
	"slices"

	"giornata/api"
)

// Check returns why an order problem is not valid, or OK.
func Check(o api.Order) api.Errno {
	if o.N > api.MaxCells {
		return api.ErrLimit
	}
	if o.N < 0 || !arePairs(o.N, o.Arcs) || !arePairs(o.N, o.Near) {
		return api.ErrArg
	}
	if slices.ContainsFunc(o.Near, func(x api.Pair) bool { return x.A > x.B }) {
		return api.ErrArg
	}
	return api.OK
}

// From returns the order problem of the patches of a division.
func From(s api.Sheet, d api.Division) (api.Order, api.Errno) {
	if len(d.Patches) > api.MaxCells {
		return api.Order{}, api.ErrLimit
	}
	in := patchesOfCells(d)
	var arcs, near []api.Pair
	for _, x := range s.Seams {
		of, to := in[x.A], in[x.B]
		if of.size() != 1 || to.size() != 1 || x.Upper > api.UpBoth {
			return api.Order{}, api.ErrArg
		}
		if of == to {
			continue
		}
		p, q := of.least(), to.least()
		near = append(near, neighbours(p, q))
		if x.Upper&api.UpA != 0 {
			arcs = append(arcs, api.Pair{A: p, B: q})
		}
		if x.Upper&api.UpB != 0 {
			arcs = append(arcs, api.Pair{A: q, B: p})
		}
	}
	return api.Order{N: len(d.Patches), Arcs: ascending(arcs), Near: ascending(near)}, api.OK
}

// patchesOfCells returns for each cell the patches that have it.
func patchesOfCells(d api.Division) map[int]set {
	in := map[int]set{}
	for p, cells := range d.Patches {
		for _, cell := range cells {
			in[cell] |= single(p)
		}
	}
	return in
}

// Restrict returns the problem of some patches, which are named by their places in keep.
func Restrict(o api.Order, keep []int) (api.Order, api.Errno) {
	g, e := open(o)
	if e != api.OK {
		return api.Order{}, e
	}
	kept, is := g.set(keep)
	if !is {
		return api.Order{}, api.ErrArg
	}
	var place [api.MaxCells]int
	for i, p := range keep {
		place[p] = i
	}
	var arcs, near []api.Pair
	for _, x := range o.Arcs {
		if kept.has(x.A) && kept.has(x.B) {
			arcs = append(arcs, api.Pair{A: place[x.A], B: place[x.B]})
		}
	}
	for _, x := range o.Near {
		if kept.has(x.A) && kept.has(x.B) {
			near = append(near, neighbours(place[x.A], place[x.B]))
		}
	}
	return api.Order{N: len(keep), Arcs: ascending(arcs), Near: ascending(near)}, api.OK
}

// Join returns the problem with the arcs and neighbours of two problems of equally many patches.
func Join(o, p api.Order) (api.Order, api.Errno) {
	if e := Check(o); e != api.OK {
		return api.Order{}, e
	}
	if e := Check(p); e != api.OK {
		return api.Order{}, e
	}
	if o.N != p.N {
		return api.Order{}, api.ErrArg
	}
	return api.Order{N: o.N, Arcs: ascending(slices.Concat(o.Arcs, p.Arcs)), Near: ascending(slices.Concat(o.Near, p.Near))}, api.OK
}
