package cartoon

import (
	"iter"

	"giornata/api"
	"giornata/faces"
)

// outside is the cell of the face 0, which is in none.
const outside = -1

// drawing is a cartoon with its map, the line to which each segment belongs, the cells, and the cell of each face.
type drawing struct {
	c      api.Cartoon
	m      api.Map
	owners []int
	cells  [][]int
	cellOf []int
}

// Segments returns the segments of a cartoon, and the line to which each one belongs.
func Segments(c api.Cartoon) ([]api.Seg, []int, api.Errno) {
	if e := Check(c); e != api.OK {
		return nil, nil, e
	}
	var segments []api.Seg
	var owners []int
	for i, l := range c.Lines {
		for j, p := range l.Chain[1:] {
			segments = append(segments, api.Seg{A: l.Chain[j], B: p})
			owners = append(owners, i)
		}
	}
	return segments, owners, api.OK
}

// Map returns the map of a cartoon.
func Map(c api.Cartoon) (api.Map, api.Errno) {
	d, e := draw(c)
	return d.m, e
}

// GroundOf returns the ground of each face from the face 1 on.
func GroundOf(c api.Cartoon) ([]int, api.Errno) {
	d, e := draw(c)
	if e != api.OK {
		return nil, e
	}
	return d.grounds()
}

// At returns the cell of the face that has a point inside, and the name of the face's ground.
func At(c api.Cartoon, p api.Point) (int, string, api.Errno) {
	d, e := draw(c)
	if e != api.OK {
		return 0, "", e
	}
	grounds, e := d.grounds()
	if e != api.OK {
		return 0, "", e
	}
	face, e := faces.At(d.m, p)
	if e != api.OK {
		return 0, "", e
	}
	if face == 0 {
		return 0, "", api.ErrNone
	}
	return d.cellOf[face], c.Grounds[grounds[face-1]].Name, api.OK
}

func draw(c api.Cartoon) (drawing, api.Errno) {
	segments, owners, e := Segments(c)
	if e != api.OK {
		return drawing{}, e
	}
	m, e := faces.Build(c.Wall, segments)
	if e != api.OK {
		return drawing{}, e
	}
	d := drawing{c: c, m: m, owners: owners}
	d.cells, d.cellOf = d.join()
	return d, api.OK
}

// join returns the cells, and the cell of each face.
func (d drawing) join() ([][]int, []int) {
	var least [api.MaxFaces + 1]int
	for i := range least {
		least[i] = i
	}
	var root func(face int) int
	root = func(face int) int {
		if least[face] != face {
			least[face] = root(least[face])
		}
		return least[face]
	}
	for _, x := range d.m.Edges {
		if l, is := d.lineOf(x); is && d.c.Lines[l].Kind == api.LineNever {
			a, b := root(x.Left), root(x.Right)
			least[max(a, b)] = min(a, b)
		}
	}
	var cells [][]int
	cellOf := make([]int, d.m.Faces+1)
	cellOf[0] = outside
	for face := 1; face <= d.m.Faces; face++ {
		// The least face of a cell comes before its other ones.
		if root(face) == face {
			cellOf[face] = len(cells)
			cells = append(cells, nil)
		}
		cell := cellOf[root(face)]
		cellOf[face] = cell
		cells[cell] = append(cells[cell], face)
	}
	return cells, cellOf
}

// lineOf returns the line of the cartoon that an edge is on; false for an edge of the wall.
func (d drawing) lineOf(x api.Edge) (int, bool) {
	if x.Line < 0 {
		return 0, false
	}
	return d.owners[x.Line], true
}

// shared yields the edges between two different cells, each with its index.
func (d drawing) shared() iter.Seq2[int, api.Edge] {
	return func(yield func(int, api.Edge) bool) {
		for i, x := range d.m.Edges {
			a, b := d.cellOf[x.Left], d.cellOf[x.Right]
			if a != b && a != outside && b != outside && !yield(i, x) {
				return
			}
		}
	}
}

// grounds returns the ground of each face from the face 1 on.
func (d drawing) grounds() ([]int, api.Errno) {
	// With as many grounds as faces, each face has one if no face has two.
	if len(d.c.Grounds) != d.m.Faces {
		return nil, api.ErrGround
	}
	taken := make([]bool, d.m.Faces+1)
	out := make([]int, d.m.Faces)
	for i, g := range d.c.Grounds {
		face, e := faces.At(d.m, g.At)
		if e != api.OK || face == 0 || taken[face] {
			return nil, api.ErrGround
		}
		taken[face] = true
		out[face-1] = i
	}
	return out, api.OK
}
