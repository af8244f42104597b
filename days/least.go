package days

import (
	"iter"
	"slices"

	"giornata/api"
)

// Bounds of the values of a table.
const (
	maxTableDays = 1000000
	maxTableSeam = 10000000000000
)

// noSeam stands for the price of the seams of divisions where there are none; adding prices to it does not overflow.
const noSeam = 1 << 60

// never is the value of a set that cannot be divided into patches that fit. It is less than the sum of itself and of any patch.
var never = api.Cost{Days: maxTableDays}

// choice is a patch that fits, with its doubled cost.
type choice struct {
	cells set
	cost  api.Cost
}

// choices are all patches that fit, by their least cells, for all cells of a wall.
type choices struct {
	all      set
	starting [api.MaxDivide][]choice
}

// openChoices returns the choices for a sheet with few cells, and for limits.
func openChoices(s api.Sheet, l api.Limits) (choices, api.Errno) {
	w, e := openSmall(s, l)
	if e != api.OK {
		return choices{}, e
	}
	return w.choices(), api.OK
}

// Least returns the first least division, and a table that shows that none is less.
func Least(s api.Sheet, l api.Limits) (api.Division, api.Table, api.Errno) {
	c, e := openChoices(s, l)
	if e != api.OK {
		return api.Division{}, api.Table{}, e
	}
	value := c.values()
	if value(c.all) == never {
		return api.Division{}, api.Table{}, api.ErrNever
	}
	var t api.Table
	for cells := range c.all + 1 {
		t.Values = append(t.Values, value(cells))
	}
	return divisionOf(c.first(value)), t, api.OK
}

// CheckLeast reports whether a division is right, and a table shows that none costs less.
func CheckLeast(s api.Sheet, l api.Limits, d api.Division, t api.Table) (bool, api.Errno) {
	w, patches, e := openSmallDivision(s, l, d)
	if e != api.OK {
		return false, e
	}
	if !w.right(patches) || !w.choices().bounded(t) {
		return false, api.OK
	}
	return t.Values[w.all()] == twice(w.cost(patches)), api.OK
}

// Best reports whether a division is a least one.
func Best(s api.Sheet, l api.Limits, d api.Division) (bool, api.Errno) {
	w, patches, e := openSmallDivision(s, l, d)
	if e != api.OK || !w.right(patches) {
		return false, e
	}
	return w.choices().values()(w.all()) == twice(w.cost(patches)), api.OK
}

// Count returns how many normal least divisions there are.
func Count(s api.Sheet, l api.Limits) (int, api.Errno) {
	c, e := openChoices(s, l)
	if e != api.OK {
		return 0, e
	}
	return c.counts(c.values())(c.all), api.OK
}

// Together returns the pairs of cells that are in one patch of every least division.
func Together(s api.Sheet, l api.Limits) ([]api.Pair, api.Errno) {
	c, e := openChoices(s, l)
	if e != api.OK {
		return nil, e
	}
	value := c.values()
	if value(c.all) == never {
		return nil, api.ErrNever
	}
	var out []api.Pair
	for a, mates := range c.mates(value)(c.all) {
		for b := range mates.cells() {
			if a < b {
				out = append(out, api.Pair{A: a, B: b})
			}
		}
	}
	return out, api.OK
}

// Frontier returns the costs of which each has less Seam than all right divisions with fewer Days.
func Frontier(s api.Sheet, l api.Limits) ([]api.Cost, api.Errno) {
	c, e := openChoices(s, l)
	if e != api.OK {
		return nil, e
	}
	var out []api.Cost
	least := noSeam
	for days, doubled := range c.seams()(c.all) {
		if doubled < least {
			out = append(out, api.Cost{Days: days, Seam: doubled / 2})
			least = doubled
		}
	}
	if len(out) == 0 {
		return nil, api.ErrNever
	}
	return out, api.OK
}

// twice returns the sum of the doubled costs of all patches of a division with this cost.
func twice(x api.Cost) api.Cost { return api.Cost{Days: x.Days, Seam: 2 * x.Seam} }

func (w wall) choices() choices {
	c := choices{all: w.all()}
	for p := range w.fitting() {
		c.starting[p.least()] = append(c.starting[p.least()], choice{p, w.doubled(p)})
	}
	return c
}

// within yields the patches that are part of a set and have its least cell.
func (c choices) within(s set) iter.Seq[choice] {
	return func(yield func(choice) bool) {
		if s == 0 {
			return
		}
		for _, p := range c.starting[s.least()] {
			if p.cells.isPartOf(s) && !yield(p) {
				return
			}
		}
	}
}

// values returns the function for the least sum of doubled costs of each set.
func (c choices) values() func(set) api.Cost {
	return remembered(func(s set, value func(set) api.Cost) api.Cost {
		if s == 0 {
			return api.Cost{}
		}
		best := never
		for p := range c.within(s) {
			if x := sum(p.cost, value(s.without(p.cells))); compareCosts(x, best) < 0 {
				best = x
			}
		}
		return best
	})
}

// least yields the patches that have the least cell of a set in its least divisions.
func (c choices) least(s set, value func(set) api.Cost) iter.Seq[choice] {
	return func(yield func(choice) bool) {
		for p := range c.within(s) {
			if sum(p.cost, value(s.without(p.cells))) == value(s) && !yield(p) {
				return
			}
		}
	}
}

// first returns the patches of the first least division, of which there are some.
func (c choices) first(value func(set) api.Cost) []set {
	var out []set
	for rest := c.all; rest != 0; {
		p := slices.MinFunc(slices.Collect(c.least(rest, value)), func(p, q choice) int { return compareLists(p.cells, q.cells) })
		out = append(out, p.cells)
		rest = rest.without(p.cells)
	}
	return out
}

// counts returns the function for the number of least divisions of each set.
func (c choices) counts(value func(set) api.Cost) func(set) int {
	return remembered(func(s set, count func(set) int) int {
		if s == 0 {
			return 1
		}
		n := 0
		for p := range c.least(s, value) {
			n += count(s.without(p.cells))
		}
		return n
	})
}

// mates returns the function for the cells that are in one patch with each cell, in every least division of each set.
func (c choices) mates(value func(set) api.Cost) func(set) [api.MaxDivide]set {
	return remembered(func(s set, mates func(set) [api.MaxDivide]set) [api.MaxDivide]set {
		var out [api.MaxDivide]set
		for cell := range s.cells() {
			out[cell] = s
		}
		for p := range c.least(s, value) {
			now := mates(s.without(p.cells))
			for cell := range p.cells.cells() {
				now[cell] = p.cells
			}
			for cell := range s.cells() {
				out[cell] &= now[cell]
			}
		}
		return out
	})
}

// seams returns the function for the least doubled price of each set with each number of patches, or noSeam.
func (c choices) seams() func(set) [api.MaxDivide + 1]int {
	return remembered(func(s set, seams func(set) [api.MaxDivide + 1]int) [api.MaxDivide + 1]int {
		var out [api.MaxDivide + 1]int
		for i := range out {
			out[i] = noSeam
		}
		if s == 0 {
			out[0] = 0
		}
		for p := range c.within(s) {
			rest := seams(s.without(p.cells))
			for i := range api.MaxDivide {
				out[i+1] = min(out[i+1], rest[i]+p.cost.Seam)
			}
		}
		return out
	})
}

// bounded reports whether no set costs less than a table says, as far as the table shows it.
func (c choices) bounded(t api.Table) bool {
	if len(t.Values) != int(c.all)+1 || slices.ContainsFunc(t.Values, isOutside) || t.Values[0] != (api.Cost{}) {
		return false
	}
	for s := range c.all + 1 {
		for p := range c.within(s) {
			if compareCosts(t.Values[s], sum(t.Values[s.without(p.cells)], p.cost)) > 0 {
				return false
			}
		}
	}
	return true
}

// isOutside reports whether a table may not have a value.
func isOutside(x api.Cost) bool {
	return x.Days < 0 || x.Days > maxTableDays || x.Seam < 0 || x.Seam > maxTableSeam
}
