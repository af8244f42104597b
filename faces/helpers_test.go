package faces_test

import (
	"cmp"
	"reflect"
	"slices"
	"testing"

	"giornata/api"
	"giornata/faces"
	"giornata/plane"
)

const (
	huge = int(^uint(0) >> 1)
	tiny = -huge - 1
)

var square = list(0, 0, 4, 0, 4, 4, 0, 4)

// chapterLines are the lines of the wall W of the chapter, whose outline is the square.
var chapterLines = []api.Seg{sg(0, 2, 4, 2), sg(2, 2, 2, 3)}

func pt(x, y int) api.Point { return api.Point{X: x, Y: y} }

func sg(a, b, c, d int) api.Seg { return api.Seg{A: pt(a, b), B: pt(c, d)} }

func list(l ...int) []api.Point {
	var out []api.Point
	for i := 0; i+1 < len(l); i += 2 {
		out = append(out, pt(l[i], l[i+1]))
	}
	return out
}

// edges returns the edges with some A, B, Left, Right and Line.
func edges(l ...[5]int) []api.Edge {
	var out []api.Edge
	for _, e := range l {
		out = append(out, api.Edge{A: e[0], B: e[1], Left: e[2], Right: e[3], Line: e[4]})
	}
	return out
}

// same compares results; nil and empty slices are equal.
func same(a, b any) bool {
	x, y := reflect.ValueOf(a), reflect.ValueOf(b)
	if x.Kind() == reflect.Slice && y.Kind() == reflect.Slice && x.Len() == 0 && y.Len() == 0 {
		return true
	}
	return reflect.DeepEqual(a, b)
}

func want(t *testing.T, name string, got, wanted any) {
	t.Helper()
	if !same(got, wanted) {
		t.Errorf("%s: %v, want %v", name, got, wanted)
	}
}

// result is a value and the error that came with it.
type result[T any] struct {
	value T
	e     api.Errno
}

func of[T any](value T, e api.Errno) result[T] { return result[T]{value, e} }

// wants compares a result with an error and with a value, which is nil or the zero value for errors.
func wants[T any](t *testing.T, name string, got result[T], value T, e api.Errno) {
	t.Helper()
	if got.e != e || !same(got.value, value) {
		t.Errorf("%s: %v, error %d, want %v, %d", name, got.value, got.e, value, e)
	}
}

// dice yields numbers that are the same in every run.
type dice struct{ state uint64 }

func (d *dice) roll(n int) int {
	d.state = d.state*6364136223846793005 + 1442695040888963407
	return int((d.state >> 33) % uint64(n))
}

func (d *dice) point(size int) api.Point { return pt(d.roll(size+1), d.roll(size+1)) }

func (d *dice) seg(size int) api.Seg {
	s := api.Seg{A: d.point(size), B: d.point(size)}
	for s.A == s.B {
		s.B = d.point(size)
	}
	return s
}

// set returns some of the faces of a map, in any order.
func (d *dice) set(m api.Map) []int {
	var out []int
	for f := range m.Faces + 1 {
		if d.roll(2) == 0 {
			out = slices.Insert(out, d.roll(len(out)+1), f)
		}
	}
	return out
}

// polygon grows a simple polygon of about some corners on a grid.
func (d *dice) polygon(size, corners int) []api.Point {
	l := []api.Point{pt(0, 0), pt(size, 0), pt(d.roll(size+1), size)}
	if d.roll(2) == 0 {
		slices.Reverse(l)
	}
	for try := 0; try < 20*corners && len(l) < corners; try++ {
		if next := slices.Insert(slices.Clone(l), 1+d.roll(len(l)), d.point(size)); plane.CheckPoly(next) == api.OK {
			l = next
		}
	}
	return l
}

// figure grows a connected figure of segments on a grid; some of them have the same line.
func (d *dice) figure(size, count int) []piece {
	l := []piece{{sg(0, 0, size, 0), -1}, {sg(0, 0, size/2, size), d.roll(4) - 1}, {sg(size, 0, size/2, size), -1}}
	for try := 0; try < 20*count && len(l) < count; try++ {
		s := d.seg(size)
		kinds := map[uint8]bool{}
		for _, p := range l {
			kinds[plane.Meet(p.Seg, s)] = true
		}
		if !kinds[api.MeetCross] && !kinds[api.MeetOverlap] && (kinds[api.MeetEnd] || kinds[api.MeetTouch]) {
			l = append(l, piece{s, d.roll(6) - 1})
		}
	}
	return l
}

// maps returns valid maps of many shapes: with dead ends on either side, and with points at which many edges meet.
func maps(seed uint64, count int) []api.Map {
	d := &dice{seed}
	l := []api.Map{chapterMap(), bowTie(), joinedTriangles()}
	for len(l) < count {
		if m, _ := model(cutAll(d.figure(3+d.roll(4), 3+d.roll(18)))); m.Faces <= api.MaxFaces && len(m.Edges) <= api.MaxEdges {
			l = append(l, m)
		}
	}
	return l
}

func chapterMap() api.Map {
	return api.Map{Points: list(0, 0, 0, 2, 0, 4, 2, 2, 2, 3, 4, 0, 4, 2, 4, 4), Faces: 2, Edges: edges(
		[5]int{0, 1, 0, 1, -1}, [5]int{0, 5, 1, 0, -1}, [5]int{1, 2, 0, 2, -1}, [5]int{1, 3, 2, 1, 0}, [5]int{2, 7, 0, 2, -1},
		[5]int{3, 4, 2, 2, 1}, [5]int{3, 6, 2, 1, 0}, [5]int{5, 6, 1, 0, -1}, [5]int{6, 7, 2, 0, -1})}
}

// bowTie is two triangles that have one point in common.
func bowTie() api.Map {
	return api.Map{Points: list(0, 0, 0, 4, 2, 2, 4, 0, 4, 4), Faces: 2, Edges: edges(
		[5]int{0, 1, 0, 1, -1}, [5]int{0, 2, 1, 0, -1}, [5]int{1, 2, 0, 1, -1},
		[5]int{2, 3, 2, 0, -1}, [5]int{2, 4, 0, 2, 5}, [5]int{3, 4, 2, 0, -1})}
}

// joinedTriangles is two triangles with an edge between them, which is a dead end outside.
func joinedTriangles() api.Map {
	return api.Map{Points: list(0, 0, 0, 2, 1, 1, 3, 1, 4, 0, 4, 2), Faces: 2, Edges: edges(
		[5]int{0, 1, 0, 1, -1}, [5]int{0, 2, 1, 0, -1}, [5]int{1, 2, 0, 1, -1}, [5]int{2, 3, 0, 0, 7},
		[5]int{3, 4, 2, 0, -1}, [5]int{3, 5, 0, 2, -1}, [5]int{4, 5, 2, 0, -1})}
}

func cloned(m api.Map) api.Map {
	return api.Map{Points: slices.Clone(m.Points), Edges: slices.Clone(m.Edges), Faces: m.Faces}
}

func sameMap(a, b api.Map) bool {
	return slices.Equal(a.Points, b.Points) && slices.Equal(a.Edges, b.Edges) && a.Faces == b.Faces
}

func comparePoints(p, q api.Point) int {
	return cmp.Or(cmp.Compare(p.X, q.X), cmp.Compare(p.Y, q.Y))
}

func ends(m api.Map, e api.Edge) api.Seg { return api.Seg{A: m.Points[e.A], B: m.Points[e.B]} }

// scaled returns a map with all coordinates multiplied, which is the same otherwise.
func scaled(m api.Map, k int) api.Map {
	out := cloned(m)
	for i, p := range out.Points {
		out.Points[i] = pt(p.X*k, p.Y*k)
	}
	return out
}

func gridPoints(size int) []api.Point {
	var out []api.Point
	for x := 0; x <= size; x++ {
		for y := 0; y <= size; y++ {
			out = append(out, pt(x, y))
		}
	}
	return out
}

// built returns the map of a wall that has no error.
func built(t *testing.T, wall []api.Point, lines ...api.Seg) api.Map {
	t.Helper()
	m, e := faces.Build(wall, lines)
	if e != api.OK {
		t.Fatalf("Build(%v, %v): error %d", wall, lines, e)
	}
	return m
}

// shelves returns lines across a wall of the width 4, one unit from each other, and stubs others that begin on its left side and end inside it.
func shelves(n int) []api.Seg {
	var out []api.Seg
	for i := range n {
		out = append(out, sg(0, i+1, 4, i+1))
	}
	return out
}

func stubs(n int) []api.Seg {
	var out []api.Seg
	for i := range n {
		out = append(out, sg(0, i+1, 2, i+1))
	}
	return out
}

func tower(height int) []api.Point { return list(0, 0, 4, 0, 4, height, 0, height) }
