package faces

import (
	"giornata/api"
	"giornata/plane"
)

// At returns the face that has a point.
func At(m api.Map, p api.Point) (int, api.Errno) {
	edges, e := On(m, p)
	if e != api.OK {
		return 0, e
	}
	if len(edges) > 0 {
		return 0, api.ErrEdge
	}
	return place(m, p), api.OK
}

// On returns the edges that contain a point.
func On(m api.Map, p api.Point) ([]int, api.Errno) {
	if Check(m) != api.OK || plane.CheckPoint(p) != api.OK {
		return nil, api.ErrArg
	}
	return edgesThat(m, func(e api.Edge) bool { return plane.On(p, segment(m, e)) }), api.OK
}

// Above says which one of two faces lies above the other one.
func Above(m api.Map, a, b int) (uint8, api.Errno) {
	if e := checkFaces(m, a, b); e != api.OK {
		return 0, e
	}
	if a == 0 || b == 0 || a == b {
		return 0, api.ErrArg
	}
	up := api.UpNone
	for _, e := range m.Edges {
		switch {
		case m.Points[e.A].X == m.Points[e.B].X:
		case e.Left == a && e.Right == b:
			up |= api.UpA
		case e.Left == b && e.Right == a:
			up |= api.UpB
		}
	}
	return up, api.OK
}

// Column returns the faces that a vertical line half a unit to the right of an X meets.
func Column(m api.Map, x int) ([]int, api.Errno) {
	if Check(m) != api.OK || x < 0 || x >= api.MaxCoord {
		return nil, api.ErrArg
	}
	out := []int{0}
	for _, e := range column(m, x) {
		out = append(out, e.Left)
	}
	return out, api.OK
}

// Way returns a shortest list of neighbours from a face to another one.
func Way(m api.Map, a, b int) ([]int, api.Errno) {
	if e := checkFaces(m, a, b); e != api.OK {
		return nil, e
	}
	near := neighbours(m)
	steps := stepsTo(near, m.Faces, a, b)
	if steps[a] < 0 {
		return nil, api.ErrNone
	}
	out := []int{a}
	for at := a; at != b; {
		nearer := steps[at] - 1
		for f, n := range steps {
			if n == nearer && near[pair{at, f}] {
				at = f
				break
			}
		}
		out = append(out, at)
	}
	return out, api.OK
}

// stepsTo returns how many steps lead to b from each face that is as near to it as a, and -1 for faces further away. No way leads through the face 0.
func stepsTo(near map[pair]bool, faces, a, b int) []int {
	steps := make([]int, faces+1)
	for f := range steps {
		steps[f] = -1
	}
	steps[b] = 0
	queue := []int{b}
search:
	for i := 0; i < len(queue); i++ {
		at := queue[i]
		for f, n := range steps {
			if n >= 0 || !near[pair{at, f}] || f == 0 && a != 0 {
				continue
			}
			steps[f] = steps[at] + 1
			if f == a {
				break search
			}
			queue = append(queue, f)
		}
	}
	return steps
}

// column returns the edges that a vertical line half a unit to the right of X = x meets, from below to above.
func column(m api.Map, x int) []api.Edge {
	var met []api.Edge
	for _, e := range m.Edges {
		if m.Points[e.A].X <= x && x < m.Points[e.B].X {
			met = append(met, e)
		}
	}
	return sorted(met, func(e, f api.Edge) int {
		order, _ := plane.Above(segment(m, e), segment(m, f))
		return order
	})
}

// place returns the face that has a point that is on no edge: a little to the right of it there is the same face.
func place(m api.Map, p api.Point) int {
	face := 0
	for _, e := range column(m, p.X) {
		if plane.Turn(m.Points[e.A], m.Points[e.B], p) == 1 {
			face = e.Left
		}
	}
	return face
}
