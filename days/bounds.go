package days

import (
	"cmp"

	"giornata/api"
)

// Apart returns the first of the greatest sets of cells of which no two are in one patch that fits.
func Apart(s api.Sheet, l api.Limits) ([]int, api.Errno) {
	w, e := openSmall(s, l)
	if e != api.OK {
		return nil, e
	}
	partners := w.partners()
	var best set
	for cells := range w.all() + 1 {
		if areApart(cells, partners) && cmp.Or(cmp.Compare(best.size(), cells.size()), compareLists(cells, best)) < 0 {
			best = cells
		}
	}
	return best.list(), api.OK
}

// CheckApart reports whether no two of some cells are in one patch that fits.
func CheckApart(s api.Sheet, l api.Limits, cells []int) (bool, api.Errno) {
	w, p, e := openPatch(s, l, cells)
	if e != api.OK {
		return false, e
	}
	if e := w.checkSmall(); e != api.OK {
		return false, e
	}
	return areApart(p, w.partners()), api.OK
}

// partners returns for each cell those that are in one patch that fits with it.
func (w wall) partners() [api.MaxDivide]set {
	var out [api.MaxDivide]set
	for p := range w.fitting() {
		for cell := range p.cells() {
			out[cell] |= p.without(single(cell))
		}
	}
	return out
}

// areApart reports whether no cell of a set is a partner of another one.
func areApart(s set, partners [api.MaxDivide]set) bool {
	for cell := range s.cells() {
		if partners[cell]&s != 0 {
			return false
		}
	}
	return true
}
