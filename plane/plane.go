// Package plane is layer 1: exact geometry of points, segments and polygons, with certificates.
package plane

import (
	"cmp"

	"giornata/api"
)

// CheckPoint returns ErrArg if a point is not valid.
func CheckPoint(p api.Point) api.Errno {
	if p.X < 0 || p.X > api.MaxCoord || p.Y < 0 || p.Y > api.MaxCoord {
		return api.ErrArg
	}
	return api.OK
}

// Turn returns whether three points go to the left (1), to the right (-1) or straight on (0).
func Turn(a, b, c api.Point) int {
	if checkPoints([]api.Point{a, b, c}, 3) != api.OK {
		return 0
	}
	return turn(a, b, c)
}

// Length returns the length of a chain.
func Length(l []api.Point) int {
	if checkPoints(l, api.MaxSegs) != api.OK {
		return 0
	}
	sum := 0
	for i := 1; i < len(l); i++ {
		sum += distance(l[i-1].X, l[i].X) + distance(l[i-1].Y, l[i].Y)
	}
	return sum
}

// Box returns the points with the least and with the greatest coordinates of a list.
func Box(l []api.Point) (low, high api.Point, ok bool) {
	if len(l) == 0 || checkPoints(l, len(l)) != api.OK {
		return api.Point{}, api.Point{}, false
	}
	low, high = l[0], l[0]
	for _, p := range l {
		low = api.Point{X: min(low.X, p.X), Y: min(low.Y, p.Y)}
		high = api.Point{X: max(high.X, p.X), Y: max(high.Y, p.Y)}
	}
	return low, high, true
}

// turn takes any coordinates whose products fit an int, because Within doubles those of valid points.
func turn(a, b, c api.Point) int {
	return cmp.Compare((b.X-a.X)*(c.Y-a.Y), (b.Y-a.Y)*(c.X-a.X))
}

func checkPoints(l []api.Point, most int) api.Errno {
	if len(l) > most {
		return api.ErrLimit
	}
	for _, p := range l {
		if CheckPoint(p) != api.OK {
			return api.ErrArg
		}
	}
	return api.OK
}

func comparePoints(p, q api.Point) int {
	return cmp.Or(cmp.Compare(p.X, q.X), cmp.Compare(p.Y, q.Y))
}

func distance(a, b int) int {
	return max(a-b, b-a)
}
