package days

import (
	"iter"

	"giornata/api"
	"giornata/cartoon"
)

// wall is a valid sheet with the neighbours of each cell, and valid limits, which are zero for a function that has none.
type wall struct {
	api.Sheet
	limits api.Limits
	near   []set
}

// open returns the wall of a sheet.
func open(s api.Sheet) (wall, api.Errno) {
	if e := cartoon.CheckSheet(s); e != api.OK {
		return wall{}, e
	}
	w := wall{Sheet: s, near: make([]set, len(s.Cells))}
	for _, x := range s.Seams {
		w.near[x.A] |= single(x.B)
		w.near[x.B] |= single(x.A)
	}
	return w, api.OK
}

// openLimited returns the wall of a sheet and of limits.
func openLimited(s api.Sheet, l api.Limits) (wall, api.Errno) {
	w, e := open(s)
	if e != api.OK {
		return wall{}, e
	}
	if e := CheckLimits(l); e != api.OK {
		return wall{}, e
	}
	w.limits = l
	return w, api.OK
}

// openPatch returns the wall of a sheet and of limits, and the set of the cells of a patch.
func openPatch(s api.Sheet, l api.Limits, cells []int) (wall, set, api.Errno) {
	w, e := openLimited(s, l)
	if e != api.OK {
		return wall{}, 0, e
	}
	p, e := w.patch(cells)
	return w, p, e
}

// openDivision returns the wall of a sheet and of limits, and the sets of the patches of a division.
func openDivision(s api.Sheet, l api.Limits, d api.Division) (wall, []set, api.Errno) {
	w, e := openLimited(s, l)
	if e != api.OK {
		return wall{}, nil, e
	}
	patches, e := w.patches(d)
	return w, patches, e
}

// openSmall returns the wall of a sheet with few cells, and of limits.
func openSmall(s api.Sheet, l api.Limits) (wall, api.Errno) {
	w, e := openLimited(s, l)
	if e != api.OK {
		return wall{}, e
	}
	return w, w.checkSmall()
}

// openSmallDivision returns the wall of a sheet with few cells, and of limits, and the sets of the patches of a division.
func openSmallDivision(s api.Sheet, l api.Limits, d api.Division) (wall, []set, api.Errno) {
	w, patches, e := openDivision(s, l, d)
	if e != api.OK {
		return wall{}, nil, e
	}
	return w, patches, w.checkSmall()
}

// patch returns the set of the cells of a patch.
func (w wall) patch(cells []int) (set, api.Errno) { return w.added(0, cells) }

// patches returns the sets of the patches of a whole division.
func (w wall) patches(d api.Division) ([]set, api.Errno) {
	var out []set
	var seen set
	for _, cells := range d.Patches {
		if len(cells) == 0 {
			return nil, api.ErrArg
		}
		now, e := w.added(seen, cells)
		if e != api.OK {
			return nil, e
		}
		out = append(out, now.without(seen))
		seen = now
	}
	if seen != w.all() {
		return nil, api.ErrNone
	}
	return out, api.OK
}

// added returns a set with cells that are not in it yet.
func (w wall) added(s set, cells []int) (set, api.Errno) {
	for _, cell := range cells {
		if cell < 0 || cell >= len(w.Cells) {
			return 0, api.ErrArg
		}
		if s.has(cell) {
			return 0, api.ErrTwice
		}
		s |= single(cell)
	}
	return s, api.OK
}

func (w wall) all() set { return firstCells(len(w.Cells)) }

// checkSmall returns ErrLimit if the sheet has too many cells to look at all sets of them.
func (w wall) checkSmall() api.Errno {
	if len(w.Cells) > api.MaxDivide {
		return api.ErrLimit
	}
	return api.OK
}

// why returns why a patch does not fit, or FitOk.
func (w wall) why(p set) uint8 {
	switch {
	case p == 0:
		return api.FitEmpty
	case !w.joined(p):
		return api.FitApart
	case len(w.reach(p)) == 0:
		return api.FitReach
	case w.work(p) > w.limits.Minutes:
		return api.FitWork
	}
	return api.FitOk
}

func (w wall) fits(p set) bool { return w.why(p) == api.FitOk }

// fitting yields all patches that fit, in the order of their numbers.
func (w wall) fitting() iter.Seq[set] {
	return func(yield func(set) bool) {
		for p := range w.all() + 1 {
			if w.fits(p) && !yield(p) {
				return
			}
		}
	}
}

// joined reports whether each cell of a patch can be reached from its least one.
func (w wall) joined(p set) bool {
	found, last := p&-p, set(0)
	for found != last {
		last = found
		for cell := range last.cells() {
			found |= w.near[cell] & p
		}
	}
	return found == p
}

// reach returns the stages that reach all cells of a patch.
func (w wall) reach(p set) []int {
	low, high := api.MaxCoord, 0
	for cell := range p.cells() {
		low, high = min(low, w.Cells[cell].Low), max(high, w.Cells[cell].High)
	}
	var out []int
	for i, x := range w.limits.Stages {
		if x.From <= low && x.To >= high {
			out = append(out, i)
		}
	}
	return out
}

func (w wall) work(p set) int {
	sum := 0
	for cell := range p.cells() {
		sum += w.Cells[cell].Work
	}
	return sum
}

// doubled returns the doubled cost of a patch.
func (w wall) doubled(p set) api.Cost {
	cost := api.Cost{Days: 1}
	for _, x := range w.Seams {
		if p.has(x.A) != p.has(x.B) {
			cost.Seam += x.Price
		}
	}
	return cost
}
