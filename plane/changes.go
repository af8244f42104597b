package plane

import "giornata/api"

// farthest is the greatest number, without its sign, by which a list may be changed.
const farthest = 20000

// Move adds dx to each X and dy to each Y.
func Move(l []api.Point, dx, dy int) ([]api.Point, api.Errno) {
	return changed(l, [2]int{dx, dy}, func(p api.Point) api.Point {
		return api.Point{X: p.X + dx, Y: p.Y + dy}
	})
}

// Mirror replaces each X by width - X.
func Mirror(l []api.Point, width int) ([]api.Point, api.Errno) {
	return changed(l, [2]int{width}, func(p api.Point) api.Point {
		return api.Point{X: width - p.X, Y: p.Y}
	})
}

// Enlarge multiplies all coordinates by k.
func Enlarge(l []api.Point, k int) ([]api.Point, api.Errno) {
	return changed(l, [2]int{k}, func(p api.Point) api.Point {
		return api.Point{X: p.X * k, Y: p.Y * k}
	})
}

// changed returns the points that a change by some numbers makes of a list.
func changed(l []api.Point, by [2]int, change func(api.Point) api.Point) ([]api.Point, api.Errno) {
	if e := checkPoints(l, api.MaxSegs); e != api.OK {
		return nil, e
	}
	for _, n := range by {
		if n < -farthest || n > farthest {
			return nil, api.ErrArg
		}
	}
	out := make([]api.Point, 0, len(l))
	for _, p := range l {
		out = append(out, change(p))
	}
	if e := checkPoints(out, api.MaxSegs); e != api.OK {
		return nil, e
	}
	return out, api.OK
}
