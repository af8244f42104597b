package plane

import (
	"cmp"
	"iter"
	"slices"
	"sort"

	"giornata/api"
)

// Sweep returns strips that show that no segments cross.
func Sweep(l []api.Seg) ([]api.Strip, api.Errno) {
	if e := checkApart(l); e != api.OK {
		return nil, e
	}
	var out []api.Strip
	for strip := range strips(l) {
		pile := heights(l, strip.Segs, strip.From+strip.To)
		slices.SortFunc(pile, func(a, b height) int { return a.compare(b.ratio) })
		for i, h := range pile {
			strip.Segs[i] = h.seg
		}
		out = append(out, strip)
	}
	return out, api.OK
}

// CheckSweep reports whether strips show that no segments cross.
func CheckSweep(l []api.Seg, c []api.Strip) bool {
	if checkSegs(l) != api.OK || !sameStrips(l, c) {
		return false
	}
	for _, strip := range c {
		if !rising(l, strip) || crowded(l, strip.Segs, strip.From) || crowded(l, strip.Segs, strip.To) {
			return false
		}
	}
	upright := verticals(l)
	if overlapping(upright) {
		return false
	}
	for _, v := range upright {
		if crossed(l, c, v) {
			return false
		}
	}
	return true
}

// strips yields the strips between neighbouring X of ends, from left to right; the Segs of each are in ascending order of their indices.
func strips(l []api.Seg) iter.Seq[api.Strip] {
	return func(yield func(api.Strip) bool) {
		xs := endXs(l)
		for i := 1; i < len(xs); i++ {
			from, to := xs[i-1], xs[i]
			if !yield(api.Strip{From: from, To: to, Segs: spanning(l, from, to)}) {
				return
			}
		}
	}
}

// endXs returns the X of all ends, ascending, each once.
func endXs(l []api.Seg) []int {
	out := make([]int, 0, 2*len(l))
	for _, s := range l {
		out = append(out, s.A.X, s.B.X)
	}
	slices.Sort(out)
	return slices.Compact(out)
}

func spanning(l []api.Seg, from, to int) []int {
	var out []int
	for i, s := range l {
		if min(s.A.X, s.B.X) <= from && max(s.A.X, s.B.X) >= to {
			out = append(out, i)
		}
	}
	return out
}

// sameStrips reports whether strips have the From and To and the sets of Segs that Sweep gives them.
func sameStrips(l []api.Seg, c []api.Strip) bool {
	i := 0
	for want := range strips(l) {
		if i == len(c) || c[i].From != want.From || c[i].To != want.To || !sameSet(c[i].Segs, want.Segs) {
			return false
		}
		i++
	}
	return i == len(c)
}

func sameSet(l, ascending []int) bool {
	sorted := slices.Clone(l)
	slices.Sort(sorted)
	return slices.Equal(sorted, ascending)
}

// rising reports whether each segment of a strip is below the next one: nowhere above it, and lower at one side at least.
func rising(l []api.Seg, strip api.Strip) bool {
	left := heights(l, strip.Segs, 2*strip.From)
	right := heights(l, strip.Segs, 2*strip.To)
	for i := 1; i < len(left); i++ {
		atLeft := left[i-1].compare(left[i].ratio)
		atRight := right[i-1].compare(right[i].ratio)
		if atLeft > 0 || atRight > 0 || atLeft == 0 && atRight == 0 {
			return false
		}
	}
	return true
}

// crowded reports whether two segments that go on beyond an X have the same Y there. The segments are ordered by their Y.
func crowded(l []api.Seg, segs []int, x int) bool {
	going := 0
	pile := heights(l, segs, 2*x)
	for i, h := range pile {
		if i == 0 || h.compare(pile[i-1].ratio) != 0 {
			going = 0
		}
		if l[h.seg].A.X != x && l[h.seg].B.X != x {
			going++
		}
		if going > 1 {
			return true
		}
	}
	return false
}

// verticals returns the vertical segments, the lower end first, in ascending order.
func verticals(l []api.Seg) []api.Seg {
	var out []api.Seg
	for _, s := range l {
		if vertical(s) {
			out = append(out, forward(s))
		}
	}
	slices.SortFunc(out, compareSegs)
	return out
}

// overlapping reports whether two of the vertical segments, in ascending order, overlap. If any two do, then two neighbours do.
func overlapping(upright []api.Seg) bool {
	for i := 1; i < len(upright); i++ {
		low, high := upright[i-1], upright[i]
		if low.A.X == high.A.X && low.B.Y > high.A.Y {
			return true
		}
	}
	return false
}

// crossed reports whether a segment that goes on beyond both sides of a vertical one meets it inside. All such segments are in the strip that ends there, and that strip is ordered by the Y at its end.
func crossed(l []api.Seg, c []api.Strip, v api.Seg) bool {
	at, found := slices.BinarySearchFunc(c, v.A.X, func(s api.Strip, x int) int { return cmp.Compare(s.To, x) })
	if !found {
		return false
	}
	segs := c[at].Segs
	y := func(i int) ratio { return heightAt(l[segs[i]], 2*v.A.X) }
	first := sort.Search(len(segs), func(i int) bool { return y(i).compare(ratio{v.A.Y, 1}) > 0 })
	for i := first; i < len(segs) && y(i).compare(ratio{v.B.Y, 1}) < 0; i++ {
		if s := l[segs[i]]; s.A.X != v.A.X && s.B.X != v.A.X {
			return true
		}
	}
	return false
}
