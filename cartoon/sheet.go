package cartoon

import (
	"cmp"
	"slices"

	"giornata/api"
)

// Limits of sheets that package api does not name.
const (
	maxCellColours = 40
	maxCellWork    = api.MaxFaces * api.MaxWork
	maxSeamPrice   = 10000000000
)

// CheckSheet returns OK if a sheet is well-formed.
func CheckSheet(s api.Sheet) api.Errno {
	if len(s.Cells) > api.MaxCells {
		return api.ErrLimit
	}
	var taken [api.MaxFaces + 1]bool
	for _, c := range s.Cells {
		if !take(&taken, c.Faces) || !isCell(c) {
			return api.ErrArg
		}
	}
	for i, x := range s.Seams {
		if !isSeam(x, len(s.Cells)) || (i > 0 && compareSeams(s.Seams[i-1], x) >= 0) {
			return api.ErrArg
		}
	}
	return api.OK
}

// take marks the faces of a cell; false if they are none, not ascending, out of range, or taken already.
func take(taken *[api.MaxFaces + 1]bool, faces []int) bool {
	last := 0
	for _, face := range faces {
		if face <= last || face > api.MaxFaces || taken[face] {
			return false
		}
		taken[face] = true
		last = face
	}
	return len(faces) > 0
}

// isCell reports whether a cell has the work, the height and the colours that one may have.
func isCell(c api.Cell) bool {
	if c.Work < 1 || c.Work > maxCellWork || c.Low < 0 || c.High <= c.Low || c.High > api.MaxCoord {
		return false
	}
	return len(c.Colours) <= maxCellColours && areNames(c.Colours) && different(c.Colours)
}

func isSeam(s api.Seam, cells int) bool {
	return s.A >= 0 && s.B > s.A && s.B < cells && s.Price >= 0 && s.Price <= maxSeamPrice && s.Upper <= api.UpBoth
}

// SeamOf returns the seam between two cells; false if there is none.
func SeamOf(s api.Sheet, a, b int) (api.Seam, bool) {
	if CheckSheet(s) != api.OK {
		return api.Seam{}, false
	}
	i, found := slices.BinarySearchFunc(s.Seams, api.Seam{A: min(a, b), B: max(a, b)}, compareSeams)
	if !found {
		return api.Seam{}, false
	}
	return s.Seams[i], true
}

// Colours returns the colours of some cells.
func Colours(s api.Sheet, patch []int) ([]string, api.Errno) {
	if e := CheckSheet(s); e != api.OK {
		return nil, e
	}
	var seen [api.MaxCells]bool
	var out []string
	for _, cell := range patch {
		if cell < 0 || cell >= len(s.Cells) {
			return nil, api.ErrArg
		}
		if seen[cell] {
			return nil, api.ErrTwice
		}
		seen[cell] = true
		out = joined(out, s.Cells[cell].Colours)
	}
	return out, api.OK
}

// Uses returns the work of the cells that have each colour.
func Uses(s api.Sheet) ([]api.Use, api.Errno) {
	if e := CheckSheet(s); e != api.OK {
		return nil, e
	}
	work := map[string]int{}
	for _, c := range s.Cells {
		for _, colour := range c.Colours {
			work[colour] += c.Work
		}
	}
	var out []api.Use
	for colour, w := range work {
		out = append(out, api.Use{Colour: colour, Work: w})
	}
	slices.SortFunc(out, func(x, y api.Use) int { return cmp.Compare(x.Colour, y.Colour) })
	return out, api.OK
}
