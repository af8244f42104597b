package cartoon

import (
	"iter"
	"slices"

	"giornata/api"
)

const maxEnlarge = 100

// Move returns a cartoon with all points moved.
func Move(c api.Cartoon, dx, dy int) (api.Cartoon, api.Errno) {
	return moved(c, func(p api.Point) api.Point { return api.Point{X: p.X + dx, Y: p.Y + dy} })
}

// Mirror returns a cartoon with left and right exchanged.
func Mirror(c api.Cartoon, width int) (api.Cartoon, api.Errno) {
	return moved(c, func(p api.Point) api.Point { return api.Point{X: width - p.X, Y: p.Y} })
}

// Enlarge returns a cartoon with all coordinates multiplied.
func Enlarge(c api.Cartoon, k int) (api.Cartoon, api.Errno) {
	if e := Check(c); e != api.OK {
		return api.Cartoon{}, e
	}
	if k < 1 || k > maxEnlarge {
		return api.Cartoon{}, api.ErrArg
	}
	return moved(c, func(p api.Point) api.Point { return api.Point{X: p.X * k, Y: p.Y * k} })
}

func moved(c api.Cartoon, to func(api.Point) api.Point) (api.Cartoon, api.Errno) {
	if e := Check(c); e != api.OK {
		return api.Cartoon{}, e
	}
	out := copied(c)
	for p := range pointsOf(out) {
		*p = to(*p)
		if !valid(*p) {
			return api.Cartoon{}, api.ErrArg
		}
	}
	return out, api.OK
}

// pointsOf yields all points of a cartoon, to be changed.
func pointsOf(c api.Cartoon) iter.Seq[*api.Point] {
	return func(yield func(*api.Point) bool) {
		lists := [][]api.Point{c.Wall}
		for _, l := range c.Lines {
			lists = append(lists, l.Chain)
		}
		for _, l := range lists {
			for i := range l {
				if !yield(&l[i]) {
					return
				}
			}
		}
		for i := range c.Grounds {
			if !yield(&c.Grounds[i].At) {
				return
			}
		}
	}
}

// copied returns a cartoon that shares no memory with another one.
func copied(c api.Cartoon) api.Cartoon {
	out := api.Cartoon{Wall: slices.Clone(c.Wall), Lines: slices.Clone(c.Lines), Grounds: slices.Clone(c.Grounds)}
	for i, l := range c.Lines {
		out.Lines[i].Chain = slices.Clone(l.Chain)
	}
	for i, g := range c.Grounds {
		out.Grounds[i].Colours = slices.Clone(g.Colours)
	}
	return out
}
