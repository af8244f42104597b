package plane

import (
	"slices"

	"giornata/api"
)

// CheckPoly returns why a list of points is no simple polygon.
func CheckPoly(l []api.Point) api.Errno {
	if e := checkPoints(l, api.MaxCorners); e != api.OK {
		return e
	}
	if len(l) < 3 {
		return api.ErrArg
	}
	if repeats(l) {
		return api.ErrTwice
	}
	if !bordersApart(l) {
		return api.ErrCross
	}
	return api.OK
}

// Area2 returns the doubled area of a list of points.
func Area2(l []api.Point) int {
	if checkPoints(l, api.MaxSegs) != api.OK {
		return 0
	}
	sum := 0
	for _, s := range edges(l) {
		sum += s.A.X*s.B.Y - s.A.Y*s.B.X
	}
	return sum
}

// Normal returns the normal form of a polygon.
func Normal(l []api.Point) ([]api.Point, api.Errno) {
	if e := CheckPoly(l); e != api.OK {
		return nil, e
	}
	out := bends(l)
	if Area2(out) < 0 {
		out = backwards(out)
	}
	return startingAt(out, leastAt(out)), api.OK
}

// Convex reports whether a polygon is simple and convex.
func Convex(l []api.Point) bool {
	corners, e := Normal(l)
	if e != api.OK {
		return false
	}
	for i := range corners {
		a, b, c := around(corners, i)
		if turn(a, b, c) != 1 {
			return false
		}
	}
	return true
}

// Where says where a point is, seen from a polygon.
func Where(l []api.Point, p api.Point) uint8 {
	if CheckPoint(p) != api.OK || CheckPoly(l) != api.OK {
		return api.WhereOut
	}
	return where(l, p)
}

// Within reports whether all points of a segment are points of a polygon.
func Within(l []api.Point, s api.Seg) bool {
	if !validSeg(s) || CheckPoly(l) != api.OK {
		return false
	}
	for _, e := range edges(l) {
		if meet(e, s) == api.MeetCross {
			return false
		}
	}
	// Between two neighbouring corners on it the segment keeps to the inside, the border or the outside, so the middle tells which.
	cuts := pieces(s, l)
	doubled := scaled(l, 2)
	for _, c := range cuts {
		middle := api.Point{X: c.A.X + c.B.X, Y: c.A.Y + c.B.Y}
		if where(doubled, middle) == api.WhereOut {
			return false
		}
	}
	return true
}

// Hull returns the corners of the least convex polygon that has all points of a list.
func Hull(l []api.Point) ([]api.Point, api.Errno) {
	if e := checkPoints(l, api.MaxSegs); e != api.OK {
		return nil, e
	}
	points := slices.Clone(l)
	slices.SortFunc(points, comparePoints)
	points = slices.Compact(points)
	if len(points) < 2 {
		return points, api.OK
	}
	below, above := halfHull(points), halfHull(backwards(points))
	return append(below[:len(below)-1], above[:len(above)-1]...), api.OK
}

// halfHull returns the part of the hull that keeps all points on its left, from the first of the sorted points to the last one.
func halfHull(sorted []api.Point) []api.Point {
	var out []api.Point
	for _, p := range sorted {
		for len(out) >= 2 && turn(out[len(out)-2], out[len(out)-1], p) != 1 {
			out = out[:len(out)-1]
		}
		out = append(out, p)
	}
	return out
}

func repeats(l []api.Point) bool {
	seen := map[api.Point]bool{}
	for _, p := range l {
		seen[p] = true
	}
	return len(seen) < len(l)
}

// bordersApart reports whether edges meet only where neighbours share a corner.
func bordersApart(l []api.Point) bool {
	border := edges(l)
	for i, s := range border {
		for j := i + 1; j < len(border); j++ {
			want := api.MeetNone
			if j == i+1 || i == 0 && j == len(border)-1 {
				want = api.MeetEnd
			}
			if meet(s, border[j]) != want {
				return false
			}
		}
	}
	return true
}

// edges returns the segments from each point of a list to the next one, and from the last one to the first.
func edges(l []api.Point) []api.Seg {
	out := make([]api.Seg, 0, len(l))
	for i, p := range l {
		out = append(out, api.Seg{A: p, B: l[(i+1)%len(l)]})
	}
	return out
}

// around returns a corner between its two neighbours.
func around(l []api.Point, i int) (a, b, c api.Point) {
	return l[(i+len(l)-1)%len(l)], l[i], l[(i+1)%len(l)]
}

// bends returns the corners that are not straight.
func bends(l []api.Point) []api.Point {
	var out []api.Point
	for i, p := range l {
		a, b, c := around(l, i)
		if turn(a, b, c) != 0 {
			out = append(out, p)
		}
	}
	return out
}

func leastAt(l []api.Point) int {
	at := 0
	for i, p := range l {
		if comparePoints(p, l[at]) < 0 {
			at = i
		}
	}
	return at
}

func where(l []api.Point, p api.Point) uint8 {
	odd := false
	for _, s := range edges(l) {
		if on(p, s) {
			return api.WhereOn
		}
		if passesRight(s, p) {
			odd = !odd
		}
	}
	if odd {
		return api.WhereIn
	}
	return api.WhereOut
}

// passesRight reports whether a segment meets the ray from a point to the right. The lower end counts and the upper one does not, so a corner on the ray counts once where the border goes on across it.
func passesRight(s api.Seg, p api.Point) bool {
	if s.A.Y > s.B.Y {
		s.A, s.B = s.B, s.A
	}
	return s.A.Y <= p.Y && p.Y < s.B.Y && turn(s.A, s.B, p) == 1
}

func scaled(l []api.Point, k int) []api.Point {
	out := make([]api.Point, 0, len(l))
	for _, p := range l {
		out = append(out, api.Point{X: p.X * k, Y: p.Y * k})
	}
	return out
}
