package plane

import (
	"slices"

	"giornata/api"
)

// side is the two ends of a directed edge.
type side [2]api.Point

// Triangles cuts a polygon into triangles, ear by ear.
func Triangles(l []api.Point) ([]api.Triangle, api.Errno) {
	rest, e := Normal(l)
	if e != api.OK {
		return nil, e
	}
	out := make([]api.Triangle, 0, len(rest)-2)
	for len(rest) > 3 {
		i := firstEar(rest)
		out = append(out, triangleAt(rest, i))
		rest = slices.Delete(rest, i, i+1)
	}
	return append(out, api.Triangle{A: rest[0], B: rest[1], C: rest[2]}), api.OK
}

// CheckTriangles reports whether triangles divide a polygon.
func CheckTriangles(l []api.Point, t []api.Triangle) bool {
	border, e := Normal(l)
	if e != api.OK || len(t) > api.MaxSegs {
		return false
	}
	surplus := map[side]int{}
	for _, x := range t {
		corners := []api.Point{x.A, x.B, x.C}
		if Turn(x.A, x.B, x.C) != 1 {
			return false
		}
		count(surplus, corners, 1)
	}
	count(surplus, border, -1)
	for _, n := range surplus {
		if n != 0 {
			return false
		}
	}
	return true
}

// firstEar returns the index of the first ear of a list of more than three corners.
func firstEar(l []api.Point) int {
	ear := 0
search:
	for i := range l {
		t := triangleAt(l, i)
		if turn(t.A, t.B, t.C) != 1 {
			continue
		}
		for _, p := range l {
			if !isCorner(p, t) && inTriangle(p, t) {
				continue search
			}
		}
		ear = i
		break search
	}
	return ear
}

func triangleAt(l []api.Point, i int) api.Triangle {
	a, b, c := around(l, i)
	return api.Triangle{A: a, B: b, C: c}
}

func isCorner(p api.Point, t api.Triangle) bool {
	return p == t.A || p == t.B || p == t.C
}

// inTriangle reports whether a point is a point of a triangle that turns left.
func inTriangle(p api.Point, t api.Triangle) bool {
	return turn(t.A, t.B, p) >= 0 && turn(t.B, t.C, p) >= 0 && turn(t.C, t.A, p) >= 0
}

// count adds n for each way from one corner to the next, under its lesser end first, with the sign of its direction.
func count(surplus map[side]int, corners []api.Point, n int) {
	for _, s := range edges(corners) {
		if comparePoints(s.A, s.B) < 0 {
			surplus[side{s.A, s.B}] += n
		} else {
			surplus[side{s.B, s.A}] -= n
		}
	}
}
