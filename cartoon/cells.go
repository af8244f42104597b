package cartoon

import (
	"cmp"
	"maps"
	"slices"

	"giornata/api"
	"giornata/faces"
	"giornata/plane"
)

// Cells returns the faces of each cell.
func Cells(c api.Cartoon) ([][]int, api.Errno) {
	d, e := draw(c)
	return d.cells, e
}

// Compile returns the sheet of a cartoon.
func Compile(c api.Cartoon) (api.Sheet, api.Errno) {
	d, e := draw(c)
	if e != api.OK {
		return api.Sheet{}, e
	}
	return d.sheet()
}

// Along returns the edges between cells that are not in the same patch.
func Along(c api.Cartoon, patches [][]int) ([]int, api.Errno) {
	d, e := draw(c)
	if e != api.OK {
		return nil, e
	}
	if _, e := d.sheet(); e != api.OK {
		return nil, e
	}
	patchOf, e := patchesOf(len(d.cells), patches)
	if e != api.OK {
		return nil, e
	}
	var out []int
	for i, x := range d.shared() {
		if patchOf[d.cellOf[x.Left]] != patchOf[d.cellOf[x.Right]] {
			out = append(out, i)
		}
	}
	return out, api.OK
}

// Crossed returns the names of the lines that no seam may run along, and that some edges are on.
func Crossed(c api.Cartoon, edges []int) ([]string, api.Errno) {
	d, e := draw(c)
	if e != api.OK {
		return nil, e
	}
	met := make([]bool, len(c.Lines))
	for _, i := range edges {
		if i < 0 || i >= len(d.m.Edges) {
			return nil, api.ErrArg
		}
		if l, is := d.lineOf(d.m.Edges[i]); is {
			met[l] = true
		}
	}
	return namesOf(c.Lines, func(i int) bool { return met[i] && c.Lines[i].Kind == api.LineNever }), api.OK
}

// Idle returns the names of the seam lines along which no two cells meet.
func Idle(c api.Cartoon) ([]string, api.Errno) {
	d, e := draw(c)
	if e != api.OK {
		return nil, e
	}
	met := make([]bool, len(c.Lines))
	for _, x := range d.shared() {
		if l, is := d.lineOf(x); is {
			met[l] = true
		}
	}
	return namesOf(c.Lines, func(i int) bool { return !met[i] && c.Lines[i].Kind == api.LineSeam }), api.OK
}

func namesOf(lines []api.Line, has func(i int) bool) []string {
	var out []string
	for i, l := range lines {
		if has(i) {
			out = append(out, l.Name)
		}
	}
	return out
}

// patchesOf returns a number for the patch of each of n cells.
func patchesOf(n int, patches [][]int) ([]int, api.Errno) {
	out := make([]int, n)
	for cell := range out {
		// A cell in no list is a patch for itself.
		out[cell] = len(patches) + cell
	}
	for i, patch := range patches {
		for _, cell := range patch {
			if cell < 0 || cell >= n {
				return nil, api.ErrArg
			}
			if out[cell] < len(patches) {
				return nil, api.ErrTwice
			}
			out[cell] = i
		}
	}
	return out, api.OK
}

// sheet returns the sheet of the cartoon.
func (d drawing) sheet() (api.Sheet, api.Errno) {
	grounds, e := d.grounds()
	if e != api.OK {
		return api.Sheet{}, e
	}
	if len(d.cells) > api.MaxCells {
		return api.Sheet{}, api.ErrLimit
	}
	var out api.Sheet
	for _, group := range d.cells {
		cell, e := d.cell(group, grounds)
		if e != api.OK {
			return api.Sheet{}, e
		}
		out.Cells = append(out.Cells, cell)
	}
	out.Seams = d.seams()
	return out, api.OK
}

// cell returns the cell of some faces.
func (d drawing) cell(group, grounds []int) (api.Cell, api.Errno) {
	low, high, e := faces.Span(d.m, group)
	if e != api.OK {
		return api.Cell{}, e
	}
	out := api.Cell{Faces: slices.Clone(group), Low: low, High: high}
	for _, face := range group {
		g := d.c.Grounds[grounds[face-1]]
		out.Work += g.Work
		out.Colours = joined(out.Colours, g.Colours)
	}
	if len(out.Colours) > maxCellColours {
		return api.Cell{}, api.ErrLimit
	}
	return out, api.OK
}

// seams returns the seams between all neighbouring cells.
func (d drawing) seams() []api.Seam {
	found := map[api.Pair]api.Seam{}
	for _, x := range d.shared() {
		upper, lower := d.cellOf[x.Left], d.cellOf[x.Right]
		a, b := min(upper, lower), max(upper, lower)
		s := found[api.Pair{A: a, B: b}]
		s.A, s.B = a, b
		if l, is := d.lineOf(x); is {
			s.Price += d.c.Lines[l].Price * d.length(x)
		}
		if d.m.Points[x.A].X != d.m.Points[x.B].X {
			s.Upper |= above(a, upper)
		}
		found[api.Pair{A: a, B: b}] = s
	}
	return slices.SortedFunc(maps.Values(found), compareSeams)
}

// above says which of the cells of a seam is the upper one along an edge; together the answers for all edges are UpBoth.
func above(a, upper int) uint8 {
	if upper == a {
		return api.UpA
	}
	return api.UpB
}

func (d drawing) length(x api.Edge) int {
	return plane.Length([]api.Point{d.m.Points[x.A], d.m.Points[x.B]})
}

func compareSeams(s, t api.Seam) int {
	return cmp.Or(cmp.Compare(s.A, t.A), cmp.Compare(s.B, t.B))
}

// joined returns a list with those of others behind it that it does not have yet.
func joined(l, others []string) []string {
	for _, s := range others {
		if !slices.Contains(l, s) {
			l = append(l, s)
		}
	}
	return l
}
