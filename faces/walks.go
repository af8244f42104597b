package faces

import (
	"giornata/api"
	"giornata/plane"
)

// Next returns the next dart of a dart.
func Next(m api.Map, dart int) (int, api.Errno) {
	if Check(m) != api.OK || dart < 0 || dart >= 2*len(m.Edges) {
		return 0, api.ErrArg
	}
	return nextOf(dartsOf(m.Points, m.Edges))[dart], api.OK
}

// Walk returns the points from which the darts of the walk of a face lead.
func Walk(m api.Map, face int) ([]int, api.Errno) {
	if e := checkFaces(m, face); e != api.OK {
		return nil, e
	}
	var out []int
	for _, d := range walkOf(m, face) {
		out = append(out, d.from)
	}
	return out, api.OK
}

// Area2 returns the doubled area of the walk of a face.
func Area2(m api.Map, face int) (int, api.Errno) {
	if e := checkFaces(m, face); e != api.OK {
		return 0, e
	}
	return area(m.Points, walkOf(m, face)), api.OK
}

// Shared returns the edges that have two faces on their sides.
func Shared(m api.Map, a, b int) ([]int, api.Errno) {
	if e := checkFaces(m, a, b); e != api.OK {
		return nil, e
	}
	return edgesThat(m, func(e api.Edge) bool {
		return e.Left == a && e.Right == b || e.Left == b && e.Right == a
	}), api.OK
}

// Dead returns all dead ends.
func Dead(m api.Map) ([]int, api.Errno) {
	if e := Check(m); e != api.OK {
		return nil, e
	}
	return edgesThat(m, func(e api.Edge) bool { return e.Left == e.Right }), api.OK
}

// Length returns the sum of the lengths of edges.
func Length(m api.Map, edges []int) (int, api.Errno) {
	if e := Check(m); e != api.OK {
		return 0, e
	}
	if len(edges) > api.MaxEdges {
		return 0, api.ErrLimit
	}
	sum := 0
	for _, i := range edges {
		if i < 0 || i >= len(m.Edges) {
			return 0, api.ErrArg
		}
		s := segment(m, m.Edges[i])
		sum += plane.Length([]api.Point{s.A, s.B})
	}
	return sum, api.OK
}

// Neighbours returns the neighbours of a face.
func Neighbours(m api.Map, face int) ([]int, api.Errno) {
	if e := checkFaces(m, face); e != api.OK {
		return nil, e
	}
	near := neighbours(m)
	var out []int
	for f := range m.Faces + 1 {
		if near[pair{face, f}] {
			out = append(out, f)
		}
	}
	return out, api.OK
}

// Touching returns the neighbours of the face 0.
func Touching(m api.Map) ([]int, api.Errno) {
	return Neighbours(m, 0)
}

// Span returns the least and the greatest Y of the points of a set of faces.
func Span(m api.Map, faces []int) (low, high int, e api.Errno) {
	in, e := checkSet(m, faces)
	if e != api.OK {
		return 0, 0, e
	}
	var ends []api.Point
	for _, x := range m.Edges {
		if in[x.Left] || in[x.Right] {
			ends = append(ends, m.Points[x.A], m.Points[x.B])
		}
	}
	least, greatest, ok := plane.Box(ends)
	if !ok {
		return 0, 0, api.ErrNone
	}
	return least.Y, greatest.Y, api.OK
}

// checkFaces returns the error of a map, or of the first face that it does not have.
func checkFaces(m api.Map, faces ...int) api.Errno {
	if e := Check(m); e != api.OK {
		return e
	}
	for _, f := range faces {
		if f < 0 || f > m.Faces {
			return api.ErrArg
		}
	}
	return api.OK
}

// faceOf returns the face of a dart.
func faceOf(m api.Map, number int) int {
	e := m.Edges[number/2]
	if number%2 == 0 {
		return e.Left
	}
	return e.Right
}

func walkOf(m api.Map, face int) []dart {
	for walk := range walks(m.Points, m.Edges) {
		if faceOf(m, walk[0].number) == face {
			return walk
		}
	}
	return nil
}

func edgesThat(m api.Map, fit func(api.Edge) bool) []int {
	var out []int
	for i, e := range m.Edges {
		if fit(e) {
			out = append(out, i)
		}
	}
	return out
}

// neighbours returns the set of all pairs of neighbours, each in both orders.
func neighbours(m api.Map) map[pair]bool {
	near := map[pair]bool{}
	for _, e := range m.Edges {
		if e.Left != e.Right {
			near[pair{e.Left, e.Right}] = true
			near[pair{e.Right, e.Left}] = true
		}
	}
	return near
}
