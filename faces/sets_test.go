package faces_test

import (
	"slices"
	"testing"

	"giornata/api"
	"giornata/faces"
)

// B9 to B11, B8: the errors of sets; of several ones that of the first face decides.
func TestSetErrors(t *testing.T) {
	m := chapterMap()
	for _, x := range []struct {
		faces []int
		e     api.Errno
	}{
		{[]int{3}, api.ErrArg},
		{[]int{-1}, api.ErrArg},
		{[]int{1, huge}, api.ErrArg},
		{[]int{1, tiny}, api.ErrArg},
		{[]int{1, 1}, api.ErrTwice},
		{[]int{0, 2, 1, 0}, api.ErrTwice},
		{[]int{3, 1, 1}, api.ErrArg},
		{[]int{3, 3}, api.ErrArg},
		{[]int{1, 1, 3}, api.ErrTwice},
		{make([]int, 1000), api.ErrTwice},
	} {
		wants(t, "Parts", of(faces.Parts(m, x.faces)), nil, x.e)
		wants(t, "Border", of(faces.Border(m, x.faces)), nil, x.e)
		wants(t, "Outline", of(faces.Outline(m, x.faces)), nil, x.e)
		wants(t, "Span", of(spanOf(m, x.faces)), [2]int{}, x.e)
	}
}

// B9
func TestParts(t *testing.T) {
	m := chapterMap()
	wants(t, "Parts of none", of(faces.Parts(m, nil)), nil, api.OK)
	wants(t, "Parts of one", of(faces.Parts(m, []int{2})), [][]int{{2}}, api.OK)
	wants(t, "Parts of all", of(faces.Parts(m, []int{2, 0, 1})), [][]int{{0, 1, 2}}, api.OK)
	wants(t, "Parts of a bow tie", of(faces.Parts(bowTie(), []int{2, 1})), [][]int{{1}, {2}}, api.OK)
	wants(t, "Parts of a bow tie by the outside", of(faces.Parts(bowTie(), []int{2, 1, 0})), [][]int{{0, 1, 2}}, api.OK)
	five := built(t, tower(5), shelves(4)...)
	wants(t, "Parts with gaps", of(faces.Parts(five, []int{5, 1, 4, 2})), [][]int{{1, 2}, {4, 5}}, api.OK)
	d := &dice{32}
	for _, m := range maps(32, 80) {
		set := d.set(m)
		wants(t, "Parts", of(faces.Parts(m, set)), modelParts(m, set), api.OK)
	}
}

func modelParts(m api.Map, set []int) [][]int {
	rest := slices.Sorted(slices.Values(set))
	var out [][]int
	for len(rest) > 0 {
		part := rest[:1:1]
		for i := 0; i < len(part); i++ {
			for _, f := range near(m, part[i]) {
				if slices.Contains(set, f) && !slices.Contains(part, f) {
					part = append(part, f)
				}
			}
		}
		slices.Sort(part)
		out = append(out, part)
		rest = slices.DeleteFunc(slices.Clone(rest), func(f int) bool { return slices.Contains(part, f) })
	}
	return out
}

// B10 and P2.6
func TestBorder(t *testing.T) {
	m := chapterMap()
	wants(t, "Border of none", of(faces.Border(m, nil)), nil, api.OK)
	wants(t, "Border of all", of(faces.Border(m, []int{0, 1, 2})), nil, api.OK)
	wants(t, "Border of the outside", of(faces.Border(m, []int{0})), []int{0, 1, 2, 4, 7, 8}, api.OK)
	wants(t, "Border without the dead end", of(faces.Border(m, []int{2})), []int{2, 3, 4, 6, 8}, api.OK)
	d := &dice{33}
	for _, m := range maps(33, 80) {
		set := d.set(m)
		var others []int
		for f := range m.Faces + 1 {
			if !slices.Contains(set, f) {
				others = append(others, f)
			}
		}
		border := edgesWhere(m, func(e api.Edge) bool {
			return slices.Contains(set, e.Left) != slices.Contains(set, e.Right)
		})
		wants(t, "Border", of(faces.Border(m, set)), border, api.OK)
		wants(t, "Border of all others", of(faces.Border(m, others)), border, api.OK)
		var together []int
		for _, part := range modelParts(m, set) {
			l, _ := faces.Border(m, part)
			together = append(together, l...)
		}
		slices.Sort(together)
		want(t, "the borders of the parts", together, border)
	}
}

// B11
func TestOutline(t *testing.T) {
	m := chapterMap()
	wants(t, "Outline of none", of(faces.Outline(m, nil)), nil, api.OK)
	wants(t, "Outline of all", of(faces.Outline(m, []int{2, 1, 0})), nil, api.OK)
	whole := [][]api.Point{list(0, 2, 0, 0, 4, 0, 4, 2, 4, 4, 0, 4)}
	wants(t, "Outline of 1, 2", of(faces.Outline(m, []int{1, 2})), whole, api.OK)
	wants(t, "Outline of 2, 1", of(faces.Outline(m, []int{2, 1})), whole, api.OK)
	wants(t, "Outline of 2", of(faces.Outline(m, []int{2})), [][]api.Point{list(0, 4, 0, 2, 2, 2, 4, 2, 4, 4)}, api.OK)
	wants(t, "Outline of 0", of(faces.Outline(m, []int{0})), [][]api.Point{list(0, 0, 0, 2, 0, 4, 4, 4, 4, 2, 4, 0)}, api.OK)
	tie := [][]api.Point{list(0, 4, 0, 0, 2, 2), list(2, 2, 4, 0, 4, 4)}
	wants(t, "Outline of a bow tie", of(faces.Outline(bowTie(), []int{1, 2})), tie, api.OK)
	wants(t, "Outline outside two triangles", of(faces.Outline(joinedTriangles(), []int{0})), [][]api.Point{list(0, 0, 0, 2, 1, 1), list(4, 0, 3, 1, 4, 2)}, api.OK)
	ring := built(t, list(0, 0, 9, 0, 9, 9, 0, 9), sg(2, 2, 6, 2), sg(6, 2, 6, 6), sg(6, 6, 2, 6), sg(2, 6, 2, 2), sg(0, 0, 2, 2))
	wants(t, "Outline of a ring", of(faces.Outline(ring, []int{1})), [][]api.Point{list(0, 9, 0, 0, 9, 0, 9, 9), list(2, 2, 2, 6, 6, 6, 6, 2)}, api.OK)
}

// B11 and P2.6
func TestOutlineOnGrid(t *testing.T) {
	d := &dice{34}
	for _, m := range maps(34, 120) {
		set := d.set(m)
		outer := func(dart int) bool {
			return slices.Contains(set, dartFace(m, dart)) && !slices.Contains(set, dartFace(m, dart^1))
		}
		var ways [][]api.Point
		around, inside := 0, 0
		for _, way := range modelWays(m, outer) {
			var points []api.Point
			for _, dart := range way {
				from, to := leads(m, dart)
				p, q := m.Points[from], m.Points[to]
				around += p.X*q.Y - q.X*p.Y
				points = append(points, p)
			}
			ways = append(ways, points)
		}
		wants(t, "Outline", of(faces.Outline(m, set)), ways, api.OK)
		for _, f := range set {
			area, _ := faces.Area2(m, f)
			inside += area
		}
		want(t, "the areas of the ways", around, inside)
	}
}
