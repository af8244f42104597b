package faces_test

import (
	"slices"
	"testing"

	"giornata/api"
	"giornata/faces"
)

// B3
func TestNext(t *testing.T) {
	m := chapterMap()
	for dart, next := range []int{4, 2, 14, 0, 8, 6} {
		wants(t, "Next", of(faces.Next(m, dart)), next, api.OK)
	}
	wants(t, "Next at the end of a dead end", of(faces.Next(m, 10)), 11, api.OK)
	wants(t, "Next behind a dead end", of(faces.Next(m, 11)), 12, api.OK)
	wants(t, "Next of the last dart", of(faces.Next(m, 17)), 15, api.OK)
	for _, dart := range []int{-1, 18, huge, tiny} {
		wants(t, "Next of no dart", of(faces.Next(m, dart)), 0, api.ErrArg)
	}
	for _, m := range maps(25, 80) {
		for dart := range 2 * len(m.Edges) {
			wants(t, "Next", of(faces.Next(m, dart)), modelNext(m, dart, anyDart), api.OK)
		}
	}
}

// B3
func TestWalk(t *testing.T) {
	m := chapterMap()
	wants(t, "Walk(0)", of(faces.Walk(m, 0)), []int{0, 1, 2, 7, 6, 5}, api.OK)
	wants(t, "Walk(1)", of(faces.Walk(m, 1)), []int{1, 0, 5, 6, 3}, api.OK)
	wants(t, "Walk(2) with a dead end", of(faces.Walk(m, 2)), []int{2, 1, 3, 4, 3, 6, 7}, api.OK)
	wants(t, "Walk(0) of two triangles", of(faces.Walk(joinedTriangles(), 0)), []int{0, 1, 2, 3, 5, 4, 3, 2}, api.OK)
	for _, face := range []int{-1, 3, huge, tiny} {
		wants(t, "Walk of no face", of(faces.Walk(m, face)), nil, api.ErrArg)
	}
	for _, m := range maps(26, 80) {
		for face := range m.Faces + 1 {
			var points []int
			for _, d := range modelWalk(m, face) {
				from, _ := leads(m, d)
				points = append(points, from)
			}
			wants(t, "Walk", of(faces.Walk(m, face)), points, api.OK)
		}
	}
}

// B4 and P2.2
func TestArea2(t *testing.T) {
	m := chapterMap()
	for face, area := range []int{-32, 16, 16} {
		wants(t, "Area2", of(faces.Area2(m, face)), area, api.OK)
	}
	for _, face := range []int{-1, 3, huge, tiny} {
		wants(t, "Area2 of no face", of(faces.Area2(m, face)), 0, api.ErrArg)
	}
	for _, m := range maps(27, 80) {
		_, areas := model(piecesOf(m))
		total := 0
		for face, area := range areas {
			wants(t, "Area2", of(faces.Area2(m, face)), area, api.OK)
			total += area
		}
		want(t, "the sum of all areas", total, 0)
	}
	// The walk of the face 1 has 598 darts.
	wants(t, "Area2 with many dead ends", of(faces.Area2(built(t, tower(300), stubs(198)...), 1)), 2*4*300, api.OK)
}

// edgesWhere returns the edges of a map that fit.
func edgesWhere(m api.Map, fit func(e api.Edge) bool) []int {
	var out []int
	for i, e := range m.Edges {
		if fit(e) {
			out = append(out, i)
		}
	}
	return out
}

// B5
func TestSharedAndDead(t *testing.T) {
	m := chapterMap()
	wants(t, "Shared(1, 2)", of(faces.Shared(m, 1, 2)), []int{3, 6}, api.OK)
	wants(t, "Shared(2, 1)", of(faces.Shared(m, 2, 1)), []int{3, 6}, api.OK)
	wants(t, "Shared(0, 2)", of(faces.Shared(m, 0, 2)), []int{2, 4, 8}, api.OK)
	wants(t, "Shared(2, 2)", of(faces.Shared(m, 2, 2)), []int{5}, api.OK)
	wants(t, "Shared(1, 1)", of(faces.Shared(m, 1, 1)), nil, api.OK)
	wants(t, "Shared(0, 0)", of(faces.Shared(joinedTriangles(), 0, 0)), []int{3}, api.OK)
	wants(t, "Dead", of(faces.Dead(m)), []int{5}, api.OK)
	wants(t, "Dead of a bow tie", of(faces.Dead(bowTie())), nil, api.OK)
	for _, face := range []int{-1, 3, huge, tiny} {
		wants(t, "Shared with no face", of(faces.Shared(m, face, 1)), nil, api.ErrArg)
		wants(t, "Shared with no face", of(faces.Shared(m, 1, face)), nil, api.ErrArg)
		wants(t, "Shared with no face", of(faces.Shared(m, face, face)), nil, api.ErrArg)
	}
	for _, m := range maps(28, 60) {
		wants(t, "Dead", of(faces.Dead(m)), edgesWhere(m, func(e api.Edge) bool { return e.Left == e.Right }), api.OK)
		for a := range m.Faces + 1 {
			for b := range m.Faces + 1 {
				shared := edgesWhere(m, func(e api.Edge) bool {
					sides := []int{e.Left, e.Right}
					return slices.Equal(sides, []int{a, b}) || slices.Equal(sides, []int{b, a})
				})
				wants(t, "Shared", of(faces.Shared(m, a, b)), shared, api.OK)
			}
		}
	}
}

// B6
func TestLength(t *testing.T) {
	m := chapterMap()
	for _, x := range []struct {
		edges []int
		want  int
		e     api.Errno
	}{
		{nil, 0, api.OK},
		{[]int{3, 6}, 4, api.OK},
		{[]int{8, 0, 8, 8}, 8, api.OK},
		{[]int{1}, 4, api.OK},
		{[]int{9}, 0, api.ErrArg},
		{[]int{0, -1}, 0, api.ErrArg},
		{[]int{huge, 0}, 0, api.ErrArg},
		{[]int{tiny}, 0, api.ErrArg},
		{make([]int, 400), 800, api.OK},
		{make([]int, 401), 0, api.ErrLimit},
	} {
		wants(t, "Length", of(faces.Length(m, x.edges)), x.want, x.e)
	}
	wants(t, "Length of slanting edges", of(faces.Length(bowTie(), []int{1, 2, 3})), 12, api.OK)
	for _, m := range maps(29, 30) {
		sum := 0
		var all []int
		for i, e := range m.Edges {
			s := ends(m, e)
			sum += max(s.A.X-s.B.X, s.B.X-s.A.X) + max(s.A.Y-s.B.Y, s.B.Y-s.A.Y)
			all = append(all, i)
		}
		wants(t, "Length of all", of(faces.Length(m, all)), sum, api.OK)
	}
}

// near returns the neighbours of a face.
func near(m api.Map, face int) []int {
	var out []int
	for f := range m.Faces + 1 {
		for _, e := range m.Edges {
			if f != face && (e.Left == face && e.Right == f || e.Left == f && e.Right == face) {
				out = append(out, f)
				break
			}
		}
	}
	return out
}

// B7
func TestNeighbours(t *testing.T) {
	m := chapterMap()
	wants(t, "Neighbours(0)", of(faces.Neighbours(m, 0)), []int{1, 2}, api.OK)
	wants(t, "Neighbours(1)", of(faces.Neighbours(m, 1)), []int{0, 2}, api.OK)
	wants(t, "Neighbours(2) with a dead end", of(faces.Neighbours(m, 2)), []int{0, 1}, api.OK)
	wants(t, "Neighbours(1) at a point alone", of(faces.Neighbours(bowTie(), 1)), []int{0}, api.OK)
	wants(t, "Touching", of(faces.Touching(m)), []int{1, 2}, api.OK)
	inner := built(t, list(0, 0, 9, 0, 0, 9), sg(0, 0, 3, 2), sg(0, 0, 2, 3), sg(3, 2, 2, 3))
	wants(t, "Touching with a face inside", of(faces.Touching(inner)), []int{1}, api.OK)
	wants(t, "Neighbours of a face inside", of(faces.Neighbours(inner, 2)), []int{1}, api.OK)
	for _, face := range []int{-1, 3, huge, tiny} {
		wants(t, "Neighbours of no face", of(faces.Neighbours(m, face)), nil, api.ErrArg)
	}
	for _, m := range maps(30, 60) {
		wants(t, "Touching", of(faces.Touching(m)), near(m, 0), api.OK)
		for face := range m.Faces + 1 {
			wants(t, "Neighbours", of(faces.Neighbours(m, face)), near(m, face), api.OK)
		}
	}
}

// B8
func TestSpan(t *testing.T) {
	m := chapterMap()
	for _, x := range []struct {
		faces []int
		want  [2]int
		e     api.Errno
	}{
		{[]int{1}, [2]int{0, 2}, api.OK},
		{[]int{2}, [2]int{2, 4}, api.OK},
		{[]int{2, 1}, [2]int{0, 4}, api.OK},
		{[]int{0}, [2]int{0, 4}, api.OK},
		{nil, [2]int{}, api.ErrNone},
		{[]int{3}, [2]int{}, api.ErrArg},
		{[]int{-1}, [2]int{}, api.ErrArg},
		{[]int{1, 1}, [2]int{}, api.ErrTwice},
	} {
		wants(t, "Span", of(spanOf(m, x.faces)), x.want, x.e)
	}
	high := []piece{{sg(0, 0, 9, 0), -1}, {sg(0, 0, 0, 5), -1}, {sg(0, 5, 9, 0), -1}, {sg(0, 5, 0, 8), -1}}
	slices.SortFunc(high, comparePieces)
	tall, _ := model(high)
	wants(t, "Span of the outside with a dead end", of(spanOf(tall, []int{0})), [2]int{0, 8}, api.OK)
	wants(t, "Span of the face beside it", of(spanOf(tall, []int{1})), [2]int{0, 5}, api.OK)
	d := &dice{31}
	for _, m := range maps(31, 60) {
		set := append(d.set(m), m.Faces)
		if len(set) > 1 && slices.Contains(set[:len(set)-1], m.Faces) {
			set = set[:len(set)-1]
		}
		low, high := huge, tiny
		for _, f := range set {
			walk, _ := faces.Walk(m, f)
			for _, p := range walk {
				low, high = min(low, m.Points[p].Y), max(high, m.Points[p].Y)
			}
		}
		wants(t, "Span", of(spanOf(m, set)), [2]int{low, high}, api.OK)
	}
}
