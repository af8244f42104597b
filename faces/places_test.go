package faces_test

import (
	"slices"
	"testing"

	"giornata/api"
	"giornata/faces"
	"giornata/plane"
)

// B12
func TestAtAndOn(t *testing.T) {
	m := chapterMap()
	for _, x := range []struct {
		p    api.Point
		face int
		e    api.Errno
		on   []int
	}{
		{pt(1, 1), 1, api.OK, nil},
		{pt(1, 3), 2, api.OK, nil},
		{pt(3, 3), 2, api.OK, nil},
		{pt(2, 2), 0, api.ErrEdge, []int{3, 5, 6}},
		{pt(2, 3), 0, api.ErrEdge, []int{5}},
		{pt(2, 0), 0, api.ErrEdge, []int{1}},
		{pt(0, 0), 0, api.ErrEdge, []int{0, 1}},
		{pt(4, 3), 0, api.ErrEdge, []int{8}},
		{pt(9, 9), 0, api.OK, nil},
		{pt(2, 5), 0, api.OK, nil},
		{pt(5, 2), 0, api.OK, nil},
		{pt(10000, 10000), 0, api.OK, nil},
		{pt(10000, 0), 0, api.OK, nil},
	} {
		wants(t, "At", of(faces.At(m, x.p)), x.face, x.e)
		wants(t, "On", of(faces.On(m, x.p)), x.on, api.OK)
	}
	for _, p := range []api.Point{pt(-1, 0), pt(0, -1), pt(10001, 1), pt(1, 10001), pt(huge, tiny)} {
		wants(t, "At of no point", of(faces.At(m, p)), 0, api.ErrArg)
		wants(t, "On of no point", of(faces.On(m, p)), nil, api.ErrArg)
	}
	whole := built(t, list(0, 0, 10000, 0, 10000, 10000, 0, 10000), sg(0, 10000, 10000, 0))
	wants(t, "At at the greatest X", of(faces.At(whole, pt(10000, 5))), 0, api.ErrEdge)
	wants(t, "At beside it", of(faces.At(whole, pt(9999, 2))), 2, api.OK)
	wants(t, "At below the diagonal", of(faces.At(whole, pt(4999, 5000))), 1, api.OK)
}

// B12 and P2.3
func TestAtOnGrid(t *testing.T) {
	for _, m := range maps(35, 80) {
		for _, p := range gridPoints(8) {
			on := edgesWhere(m, func(e api.Edge) bool { return plane.On(p, ends(m, e)) })
			wants(t, "On", of(faces.On(m, p)), on, api.OK)
			if len(on) > 0 {
				wants(t, "At of a point of an edge", of(faces.At(m, p)), 0, api.ErrEdge)
			} else {
				wants(t, "At", of(faces.At(m, p)), modelAt(m, p), api.OK)
			}
		}
	}
}

// B13
func TestAbove(t *testing.T) {
	m := chapterMap()
	wants(t, "Above(1, 2)", of(faces.Above(m, 1, 2)), api.UpB, api.OK)
	wants(t, "Above(2, 1)", of(faces.Above(m, 2, 1)), api.UpA, api.OK)
	beside := built(t, square, sg(2, 0, 2, 4))
	wants(t, "Above of faces beside each other", of(faces.Above(beside, 1, 2)), api.UpNone, api.OK)
	hooked := built(t, list(0, 0, 9, 0, 9, 9, 0, 9), sg(0, 3, 6, 3), sg(6, 3, 6, 6), sg(6, 6, 3, 6), sg(3, 6, 3, 5))
	wants(t, "Above of one face", of(faces.Above(hooked, 1, 1)), 0, api.ErrArg)
	both := built(t, list(0, 0, 9, 0, 9, 9, 0, 9), sg(0, 3, 6, 3), sg(6, 3, 6, 6), sg(6, 6, 3, 6), sg(3, 6, 3, 9))
	wants(t, "Above of faces of which each is above the other one", of(faces.Above(both, 1, 2)), api.UpBoth, api.OK)
	apart := built(t, tower(3), shelves(2)...)
	wants(t, "Above of faces that are no neighbours", of(faces.Above(apart, 1, 3)), api.UpNone, api.OK)
	for _, x := range [][2]int{{0, 1}, {1, 0}, {0, 0}, {2, 2}, {3, 1}, {1, 3}, {-1, 1}, {1, -1}, {huge, 1}, {1, tiny}} {
		wants(t, "Above with an error", of(faces.Above(m, x[0], x[1])), 0, api.ErrArg)
	}
	for _, m := range maps(36, 60) {
		for a := 1; a <= m.Faces; a++ {
			for b := 1; b <= m.Faces; b++ {
				if a == b {
					continue
				}
				up := api.UpNone
				for _, e := range m.Edges {
					slanting := m.Points[e.A].X != m.Points[e.B].X
					if slanting && e.Left == a && e.Right == b {
						up |= api.UpA
					}
					if slanting && e.Left == b && e.Right == a {
						up |= api.UpB
					}
				}
				wants(t, "Above", of(faces.Above(m, a, b)), up, api.OK)
			}
		}
	}
}

// B14
func TestColumn(t *testing.T) {
	m := chapterMap()
	for _, x := range []struct {
		x    int
		want []int
	}{
		{0, []int{0, 1, 2, 0}}, {3, []int{0, 1, 2, 0}}, {4, []int{0}}, {7, []int{0}}, {9999, []int{0}},
	} {
		wants(t, "Column", of(faces.Column(m, x.x)), x.want, api.OK)
	}
	for _, x := range []int{-1, 10000, huge, tiny} {
		wants(t, "Column with an error", of(faces.Column(m, x)), nil, api.ErrArg)
	}
	wants(t, "Column of a dead end outside", of(faces.Column(joinedTriangles(), 1)), []int{0, 0}, api.OK)
	inside := built(t, square, sg(0, 2, 3, 2))
	wants(t, "Column of a dead end inside", of(faces.Column(inside, 1)), []int{0, 1, 1, 0}, api.OK)
	wants(t, "Column beside a dead end", of(faces.Column(inside, 3)), []int{0, 1, 0}, api.OK)
}

// B14 and P2.5: the entries are the faces of points between the edges.
func TestColumnOnGrid(t *testing.T) {
	for _, m := range maps(37, 80) {
		big := scaled(m, fine)
		for x := range 7 {
			column := []int{0}
			for _, p := range columnPoints(m, x) {
				column = append(column, modelAt(big, p))
				wants(t, "At between two edges", of(faces.At(big, p)), modelAt(big, p), api.OK)
			}
			wants(t, "Column", of(faces.Column(m, x)), column, api.OK)
			checkColumn(t, m, x, column)
		}
	}
}

// checkColumn checks P2.5.
func checkColumn(t *testing.T, m api.Map, x int, column []int) {
	t.Helper()
	want(t, "the last entry", column[len(column)-1], 0)
	for i := 1; i < len(column); i++ {
		if !slices.ContainsFunc(m.Edges, func(e api.Edge) bool { return e.Right == column[i-1] && e.Left == column[i] }) {
			t.Errorf("Column(%d): %v: no edge between the entries %d and %d", x, column, i-1, i)
		}
	}
	for y := range 8 {
		for _, p := range []api.Point{pt(x, y), pt(x+1, y)} {
			if face, e := faces.At(m, p); e == api.OK && !slices.Contains(column, face) {
				t.Errorf("Column(%d): %v, without the face %d of %v", x, column, face, p)
			}
		}
	}
}

// B15
func TestWay(t *testing.T) {
	m := chapterMap()
	five := built(t, tower(5), shelves(4)...)
	quarters := built(t, square, sg(0, 2, 2, 2), sg(2, 2, 4, 2), sg(2, 0, 2, 2), sg(2, 2, 2, 4))
	for _, x := range []struct {
		m    api.Map
		a, b int
		want []int
		e    api.Errno
	}{
		{m, 0, 2, []int{0, 2}, api.OK},
		{m, 2, 0, []int{2, 0}, api.OK},
		{m, 1, 2, []int{1, 2}, api.OK},
		{m, 1, 1, []int{1}, api.OK},
		{m, 0, 0, []int{0}, api.OK},
		{five, 1, 5, []int{1, 2, 3, 4, 5}, api.OK},
		{five, 5, 2, []int{5, 4, 3, 2}, api.OK},
		{five, 5, 0, []int{5, 0}, api.OK},
		{quarters, 1, 4, []int{1, 2, 4}, api.OK},
		{quarters, 4, 1, []int{4, 2, 1}, api.OK},
		{quarters, 3, 2, []int{3, 1, 2}, api.OK},
		{bowTie(), 1, 2, nil, api.ErrNone},
		{bowTie(), 2, 1, nil, api.ErrNone},
		{bowTie(), 2, 0, []int{2, 0}, api.OK},
		{m, -1, 1, nil, api.ErrArg},
		{m, 1, -1, nil, api.ErrArg},
		{m, 3, 3, nil, api.ErrArg},
		{m, 1, huge, nil, api.ErrArg},
		{m, tiny, 1, nil, api.ErrArg},
	} {
		wants(t, "Way", of(faces.Way(x.m, x.a, x.b)), x.want, x.e)
	}
	inner := built(t, list(0, 0, 9, 0, 0, 9), sg(0, 0, 3, 2), sg(0, 0, 2, 3), sg(3, 2, 2, 3))
	wants(t, "Way from inside to the outside", of(faces.Way(inner, 2, 0)), []int{2, 1, 0}, api.OK)
	wants(t, "Way from the outside to inside", of(faces.Way(inner, 0, 2)), []int{0, 1, 2}, api.OK)
}

// B15 and P2.8: a search through all lists of faces finds the same.
func TestWayOnGrid(t *testing.T) {
	long := 0
	for _, m := range append(maps(38, 80), windings()...) {
		for a := range m.Faces + 1 {
			for b := range m.Faces + 1 {
				way := modelWay(m, a, b)
				long = max(long, len(way))
				e := api.OK
				if way == nil {
					e = api.ErrNone
				}
				wants(t, "Way", of(faces.Way(m, a, b)), way, e)
			}
		}
	}
	if long < 5 {
		t.Errorf("the longest way has only %d faces", long)
	}
}

// windings returns maps with long ways.
func windings() []api.Map {
	var out []api.Map
	d := &dice{39}
	for range 20 {
		l := []piece{{sg(0, 0, 4, 0), -1}, {sg(4, 0, 4, 6), -1}, {sg(4, 6, 0, 6), -1}, {sg(0, 6, 0, 0), -1}}
		for y := 1; y < 6; y++ {
			l = append(l, piece{sg(0, y, 4, y), y})
			if x := 1 + d.roll(6); x < 4 {
				l = append(l, piece{sg(x, y-1, x, y), y})
			}
		}
		m, _ := model(cutAll(l))
		out = append(out, m)
	}
	return out
}

// modelWay tries all lists of faces that do not repeat one, shorter ones and lesser ones first.
func modelWay(m api.Map, a, b int) []int {
	links := map[int][]int{}
	for f := range m.Faces + 1 {
		links[f] = near(m, f)
	}
	var extend func(way []int, length int) []int
	extend = func(way []int, length int) []int {
		last := way[len(way)-1]
		if len(way) == length {
			if last == b {
				return slices.Clone(way)
			}
			return nil
		}
		for _, f := range links[last] {
			if slices.Contains(way, f) || f == 0 && b != 0 {
				continue
			}
			if found := extend(append(way, f), length); found != nil {
				return found
			}
		}
		return nil
	}
	for length := 1; length <= min(m.Faces+1, 8); length++ {
		if way := extend([]int{a}, length); way != nil {
			return way
		}
	}
	return nil
}
