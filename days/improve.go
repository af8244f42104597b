package days

import "giornata/api"

// Better returns the first division with less cost to which the move of one cell leads, and true; the normal form and false if there is none.
func Better(s api.Sheet, l api.Limits, d api.Division) (api.Division, bool, api.Errno) {
	w, patches, e := openRight(s, l, d)
	if e != api.OK {
		return api.Division{}, false, e
	}
	patches, better := w.better(patches)
	return divisionOf(patches), better, api.OK
}

// Improve returns what results if Better is repeated as long as it finds something.
func Improve(s api.Sheet, l api.Limits, d api.Division) (api.Division, api.Errno) {
	w, patches, e := openRight(s, l, d)
	if e != api.OK {
		return api.Division{}, e
	}
	for better := true; better; {
		patches, better = w.better(patches)
	}
	return divisionOf(patches), api.OK
}

// openRight returns the wall of a sheet and of limits, and the ordered patches of a right division.
func openRight(s api.Sheet, l api.Limits, d api.Division) (wall, []set, api.Errno) {
	w, patches, e := openDivision(s, l, d)
	if e != api.OK {
		return wall{}, nil, e
	}
	if !w.right(patches) {
		return wall{}, nil, api.ErrArg
	}
	return w, ordered(patches), api.OK
}

// better returns the patches after the first move that leads to less cost, or as they are.
func (w wall) better(patches []set) ([]set, bool) {
	cost := w.cost(patches)
	for cell := range len(w.Cells) {
		for i, p := range patches {
			if p.has(cell) {
				continue
			}
			now := moved(patches, cell, i)
			if w.right(now) && compareCosts(w.cost(now), cost) < 0 {
				return now, true
			}
		}
	}
	return patches, false
}

// moved returns the ordered patches after the move of a cell to one of them.
func moved(patches []set, cell, to int) []set {
	var out []set
	for i, p := range patches {
		p = p.without(single(cell))
		if i == to {
			p |= single(cell)
		}
		if p != 0 {
			out = append(out, p)
		}
	}
	return ordered(out)
}
