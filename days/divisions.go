package days

import (
	"cmp"
	"iter"
	"slices"

	"giornata/api"
)

// Normal returns the normal form of a division.
func Normal(d api.Division) (api.Division, api.Errno) {
	cells := 0
	for _, patch := range d.Patches {
		cells += len(patch)
	}
	if cells > api.MaxCells {
		return api.Division{}, api.ErrLimit
	}
	var out api.Division
	var seen []int
	for _, patch := range d.Patches {
		if len(patch) == 0 {
			return api.Division{}, api.ErrArg
		}
		for _, cell := range patch {
			if cell < 0 {
				return api.Division{}, api.ErrArg
			}
			if slices.Contains(seen, cell) {
				return api.Division{}, api.ErrTwice
			}
			seen = append(seen, cell)
		}
		out.Patches = append(out.Patches, slices.Sorted(slices.Values(patch)))
	}
	slices.SortFunc(out.Patches, func(p, q []int) int { return cmp.Compare(p[0], q[0]) })
	return out, api.OK
}

// Check returns the first patch that does not fit, and why; -1 and FitOk if all fit.
func Check(s api.Sheet, l api.Limits, d api.Division) (int, uint8, api.Errno) {
	w, patches, e := openDivision(s, l, d)
	if e != api.OK {
		return 0, 0, e
	}
	for i, p := range patches {
		if why := w.why(p); why != api.FitOk {
			return i, why, api.OK
		}
	}
	return -1, api.FitOk, api.OK
}

// Seams returns the seams between different patches.
func Seams(s api.Sheet, d api.Division) ([]int, api.Errno) {
	w, e := open(s)
	if e != api.OK {
		return nil, e
	}
	patches, e := w.patches(d)
	if e != api.OK {
		return nil, e
	}
	var out []int
	for i := range w.between(patches) {
		out = append(out, i)
	}
	return out, api.OK
}

// CostOf returns the cost of a division.
func CostOf(s api.Sheet, d api.Division) (api.Cost, api.Errno) {
	w, e := open(s)
	if e != api.OK {
		return api.Cost{}, e
	}
	patches, e := w.patches(d)
	if e != api.OK {
		return api.Cost{}, e
	}
	return w.cost(patches), api.OK
}

// Unions returns the pairs of patches that fit together.
func Unions(s api.Sheet, l api.Limits, d api.Division) ([]api.Pair, api.Errno) {
	w, patches, e := openDivision(s, l, d)
	if e != api.OK {
		return nil, e
	}
	var out []api.Pair
	for b, q := range patches {
		for a, p := range patches[:b] {
			if w.fits(p | q) {
				out = append(out, api.Pair{A: a, B: b})
			}
		}
	}
	slices.SortFunc(out, func(x, y api.Pair) int { return cmp.Or(cmp.Compare(x.A, y.A), cmp.Compare(x.B, y.B)) })
	return out, api.OK
}

// between yields the seams between different patches, each with its index.
func (w wall) between(patches []set) iter.Seq2[int, api.Seam] {
	return func(yield func(int, api.Seam) bool) {
		var patchOf [api.MaxCells]int
		for i, p := range patches {
			for cell := range p.cells() {
				patchOf[cell] = i
			}
		}
		for i, x := range w.Seams {
			if patchOf[x.A] != patchOf[x.B] && !yield(i, x) {
				return
			}
		}
	}
}

func (w wall) cost(patches []set) api.Cost {
	cost := api.Cost{Days: len(patches)}
	for _, x := range w.between(patches) {
		cost.Seam += x.Price
	}
	return cost
}

// right reports whether all patches of a whole division fit.
func (w wall) right(patches []set) bool {
	return !slices.ContainsFunc(patches, func(p set) bool { return !w.fits(p) })
}

// compareCosts compares by Days, then by Seam.
func compareCosts(x, y api.Cost) int {
	return cmp.Or(cmp.Compare(x.Days, y.Days), cmp.Compare(x.Seam, y.Seam))
}

func sum(x, y api.Cost) api.Cost { return api.Cost{Days: x.Days + y.Days, Seam: x.Seam + y.Seam} }

// ordered puts patches into the order of the normal form.
func ordered(patches []set) []set {
	return slices.SortedFunc(slices.Values(patches), func(p, q set) int { return cmp.Compare(p.least(), q.least()) })
}

// divisionOf returns the division into ordered patches.
func divisionOf(patches []set) api.Division {
	var out api.Division
	for _, p := range patches {
		out.Patches = append(out.Patches, p.list())
	}
	return out
}
