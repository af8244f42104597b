package faces

import (
	"cmp"
	"iter"

	"giornata/api"
)

// direction is where a dart leads, seen from the point that it leaves.
type direction struct{ dx, dy int }

// dart is an edge in one direction, between the indices of two points.
type dart struct {
	direction
	number, from, to int
}

// compare orders directions clockwise, beginning with upward.
func (d direction) compare(other direction) int {
	return cmp.Or(cmp.Compare(d.half(), other.half()), cmp.Compare(d.dx*other.dy, d.dy*other.dx))
}

// half is 0 from upward to the right, and 1 from downward to the left, because turns tell apart no directions that are opposite.
func (d direction) half() int {
	if d.dx > 0 || d.dx == 0 && d.dy > 0 {
		return 0
	}
	return 1
}

// dartsOf returns the darts of edges, in the order of their numbers.
func dartsOf(points []api.Point, edges []api.Edge) []dart {
	out := make([]dart, 0, 2*len(edges))
	for i, e := range edges {
		dx, dy := points[e.B].X-points[e.A].X, points[e.B].Y-points[e.A].Y
		out = append(out, dart{direction{dx, dy}, 2 * i, e.A, e.B}, dart{direction{-dx, -dy}, 2*i + 1, e.B, e.A})
	}
	return out
}

// back returns the number of the dart in the opposite direction.
func back(number int) int {
	return number ^ 1
}

// nextOf returns the next dart of each dart.
func nextOf(darts []dart) []int {
	stars := sorted(darts, func(d, other dart) int {
		return cmp.Or(cmp.Compare(d.from, other.from), d.compare(other.direction))
	})
	next := make([]int, len(darts))
	first := 0
	for i, d := range stars {
		if d.from != stars[first].from {
			first = i
		}
		after := i + 1
		if after == len(stars) || stars[after].from != d.from {
			after = first
		}
		next[back(d.number)] = stars[after].number
	}
	return next
}

// rounds yields the closed ways on which each dart is followed by its next one, from its least dart on, in ascending order of these. Darts whose next one is -1 are on none.
func rounds(darts []dart, next []int) iter.Seq[[]dart] {
	return func(yield func([]dart) bool) {
		passed := make([]bool, len(darts))
		for first := range darts {
			if passed[first] || next[first] < 0 {
				continue
			}
			var round []dart
			for at := first; !passed[at]; at = next[at] {
				passed[at] = true
				round = append(round, darts[at])
			}
			if !yield(round) {
				return
			}
		}
	}
}

// walks yields the walks of a figure.
func walks(points []api.Point, edges []api.Edge) iter.Seq[[]dart] {
	darts := dartsOf(points, edges)
	return rounds(darts, nextOf(darts))
}

// sided returns the edges with the faces of their walks on both sides, and how many faces there are inside.
func sided(points []api.Point, edges []api.Edge) ([]api.Edge, int) {
	faces := 0
	faceOf := map[pair]int{}
	for walk := range walks(points, edges) {
		face := 0
		if area(points, walk) > 0 {
			faces++
			face = faces
		}
		for _, d := range walk {
			faceOf[pair{d.from, d.to}] = face
		}
	}
	out := make([]api.Edge, 0, len(edges))
	for _, e := range edges {
		e.Left, e.Right = faceOf[pair{e.A, e.B}], faceOf[pair{e.B, e.A}]
		out = append(out, e)
	}
	return out, faces
}

// area returns the doubled area of a walk. (plane.Area2 takes no more points than there are edges, and a walk may have twice as many darts.)
func area(points []api.Point, walk []dart) int {
	sum := 0
	for _, d := range walk {
		p, q := points[d.from], points[d.to]
		sum += p.X*q.Y - q.X*p.Y
	}
	return sum
}
