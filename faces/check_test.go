package faces_test

import (
	"cmp"
	"slices"
	"testing"

	"giornata/api"
	"giornata/faces"
)

// B2: maps that are valid, and each way in which one is not.
func TestCheck(t *testing.T) {
	for i, m := range maps(22, 60) {
		if faces.Check(m) != api.OK || !valid(m) {
			t.Fatalf("map %d is not valid: %v", i, m)
		}
	}
	want(t, "Check of no map", faces.Check(api.Map{}), api.ErrArg)
	for _, x := range []struct {
		name   string
		change func(m *api.Map)
	}{
		{"a face too many", func(m *api.Map) { m.Faces = 3 }},
		{"a face too few", func(m *api.Map) { m.Faces = 1 }},
		{"no faces", func(m *api.Map) { m.Faces = 0 }},
		{"very many faces", func(m *api.Map) { m.Faces = huge }},
		{"a negative number of faces", func(m *api.Map) { m.Faces = tiny }},
		{"a point out of range", func(m *api.Map) { m.Points[7] = pt(4, 10001) }},
		{"a negative coordinate", func(m *api.Map) { m.Points[0] = pt(-1, 0) }},
		{"points in another order", func(m *api.Map) { m.Points[0], m.Points[1] = m.Points[1], m.Points[0] }},
		{"a point twice", func(m *api.Map) { m.Points[1] = m.Points[0] }},
		{"a point of no edge", func(m *api.Map) { m.Points = append(m.Points, pt(9, 9)) }},
		{"a point too few", func(m *api.Map) { m.Points = m.Points[:7] }},
		{"no points", func(m *api.Map) { m.Points = nil }},
		{"edges in another order", func(m *api.Map) { m.Edges[0], m.Edges[1] = m.Edges[1], m.Edges[0] }},
		{"an edge twice", func(m *api.Map) { m.Edges = slices.Insert(m.Edges, 5, m.Edges[5]) }},
		{"an edge backwards", func(m *api.Map) { m.Edges[8].A, m.Edges[8].B = 7, 6 }},
		{"an edge from a point to itself", func(m *api.Map) { m.Edges[8].A = 7 }},
		{"an edge from no point", func(m *api.Map) { m.Edges[0].A = -1 }},
		{"an edge to no point", func(m *api.Map) { m.Edges[8].B = 8 }},
		{"an edge to far away", func(m *api.Map) { m.Edges[8].B = huge }},
		{"an edge from far away", func(m *api.Map) { m.Edges[0].A = tiny }},
		{"a line below -1", func(m *api.Map) { m.Edges[3].Line = -2 }},
		{"the line 200", func(m *api.Map) { m.Edges[3].Line = 200 }},
		{"a very great line", func(m *api.Map) { m.Edges[3].Line = huge }},
		{"another face on the left", func(m *api.Map) { m.Edges[3].Left = 0 }},
		{"another face on the right", func(m *api.Map) { m.Edges[3].Right = 2 }},
		{"a face out of range", func(m *api.Map) { m.Edges[5].Left, m.Edges[5].Right = 3, 3 }},
		{"a very great face", func(m *api.Map) { m.Edges[5].Left = huge }},
		{"a negative face", func(m *api.Map) { m.Edges[5].Right = tiny }},
		{"faces in another order", func(m *api.Map) {
			for i, e := range m.Edges {
				swapped := [3]int{0, 2, 1}
				m.Edges[i].Left, m.Edges[i].Right = swapped[e.Left], swapped[e.Right]
			}
		}},
		{"faces on other sides", func(m *api.Map) {
			for i, e := range m.Edges {
				m.Edges[i].Left, m.Edges[i].Right = e.Right, e.Left
			}
		}},
		{"an edge less", func(m *api.Map) { m.Edges = m.Edges[:8] }},
		{"an edge inside less", func(m *api.Map) { m.Edges = slices.Delete(m.Edges, 6, 7) }},
		{"edges that overlap", func(m *api.Map) {
			m.Edges = slices.Insert(m.Edges, 1, api.Edge{A: 0, B: 2, Right: 2, Line: -1})
		}},
		{"edges that cross", func(m *api.Map) {
			m.Edges = slices.Insert(m.Edges, 7, api.Edge{A: 4, B: 5, Left: 2, Right: 1, Line: 1})
		}},
		{"an edge that ends in another one", func(m *api.Map) { m.Points[4] = pt(2, 4) }},
	} {
		m := chapterMap()
		x.change(&m)
		if faces.Check(m) != api.ErrArg || valid(m) {
			t.Errorf("Check of a map with %s: %d", x.name, faces.Check(m))
		}
	}
	for i := range 8 {
		for sides := range 9 {
			m := chapterMap()
			loop := api.Edge{A: i, B: i, Left: sides / 3, Right: sides % 3, Line: 1}
			at, _ := slices.BinarySearchFunc(m.Edges, loop, func(e, f api.Edge) int { return cmp.Or(cmp.Compare(e.A, f.A), cmp.Compare(e.B, f.B)) })
			m.Edges = slices.Insert(m.Edges, at, loop)
			want(t, "Check with an edge from a point to itself", faces.Check(m), api.ErrArg)
		}
	}
	last := chapterMap()
	last.Edges[3].Line = 199
	want(t, "Check with the line 199", faces.Check(last), api.OK)
}

// B2: figures that are no map, whatever faces they are given.
func TestCheckFigures(t *testing.T) {
	triangle := []piece{{sg(0, 0, 9, 0), -1}, {sg(0, 0, 0, 9), -1}, {sg(0, 9, 9, 0), -1}}
	for _, x := range []struct {
		name string
		l    []piece
		e    api.Errno
	}{
		{"a triangle", triangle, api.OK},
		{"a triangle of lines", []piece{{sg(0, 0, 9, 0), 3}, {sg(0, 0, 0, 9), 3}, {sg(0, 9, 9, 0), 3}}, api.OK},
		{"two edges", triangle[:2], api.ErrArg},
		{"a star", []piece{{sg(0, 0, 9, 0), -1}, {sg(0, 0, 0, 9), -1}, {sg(0, 0, 9, 9), -1}}, api.ErrArg},
		{"a straight chain", []piece{{sg(0, 0, 1, 0), -1}, {sg(1, 0, 2, 0), -1}, {sg(2, 0, 3, 0), -1}}, api.ErrArg},
		{"an island", append(slices.Clone(triangle), piece{sg(1, 1, 2, 2), 0}), api.ErrArg},
		{"two triangles", append(slices.Clone(triangle), piece{sg(9, 9, 9, 8), 0}, piece{sg(8, 9, 9, 8), 0}, piece{sg(8, 9, 9, 9), 0}), api.ErrArg},
		{"a triangle in another one", append(slices.Clone(triangle), piece{sg(1, 1, 2, 1), 0}, piece{sg(1, 1, 1, 2), 0}, piece{sg(1, 2, 2, 1), 0}), api.ErrArg},
		{"a dead end outside", append(slices.Clone(triangle), piece{sg(9, 0, 12, 0), 0}), api.OK},
		{"a triangle within another one at a corner", append(slices.Clone(triangle), piece{sg(0, 0, 2, 1), 0}, piece{sg(0, 0, 1, 2), 0}, piece{sg(1, 2, 2, 1), 0}), api.OK},
	} {
		l := slices.Clone(x.l)
		slices.SortFunc(l, comparePieces)
		m, _ := model(l)
		want(t, "Check of "+x.name, faces.Check(m), x.e)
	}
}

// B2: the numbers of edges and of faces.
func TestCheckLimits(t *testing.T) {
	for _, x := range []struct {
		name         string
		lines        []api.Seg
		edges, faces int
		e            api.Errno
	}{
		{"100 faces", shelves(99), 301, 100, api.OK},
		{"101 faces", shelves(100), 304, 101, api.ErrArg},
		{"400 edges", stubs(198), 400, 1, api.OK},
		{"401 edges", append(stubs(198), sg(4, 0, 3, 1)), 401, 1, api.ErrArg},
	} {
		l := []piece{{sg(0, 0, 4, 0), -1}, {sg(4, 0, 4, 300), -1}, {sg(4, 300, 0, 300), -1}, {sg(0, 300, 0, 0), -1}}
		for _, s := range x.lines {
			l = append(l, piece{s, 7})
		}
		m, _ := model(cutAll(l))
		if len(m.Edges) != x.edges || m.Faces != x.faces {
			t.Fatalf("%s: %d edges, %d faces", x.name, len(m.Edges), m.Faces)
		}
		want(t, "Check of "+x.name, faces.Check(m), x.e)
	}
	many := chapterMap()
	for i := range 400 {
		many.Points = append(many.Points, pt(5, i))
	}
	want(t, "Check of 408 points", faces.Check(many), api.ErrArg)
}

// B2: any number of a map is changed, and the model says whether it is valid then.
func TestCheckChanges(t *testing.T) {
	d := &dice{23}
	count := map[bool]int{}
	for _, m := range maps(24, 40) {
		for range 150 {
			x := cloned(m)
			for range 1 + d.roll(3) {
				spoil(d, &x)
			}
			e := api.ErrArg
			if valid(x) {
				e = api.OK
			}
			if faces.Check(x) != e {
				t.Fatalf("Check(%v): %d", x, faces.Check(x))
			}
			count[e == api.OK]++
		}
	}
	if count[true] < 100 || count[false] < 100 {
		t.Errorf("%d valid maps, %d others", count[true], count[false])
	}
}

func spoil(d *dice, m *api.Map) {
	if len(m.Edges) == 0 || len(m.Points) == 0 {
		return
	}
	i, j := d.roll(len(m.Edges)), d.roll(len(m.Points))
	by := d.roll(5) - 2
	switch d.roll(9) {
	case 0:
		m.Edges[i].A += by
	case 1:
		m.Edges[i].B += by
	case 2:
		m.Edges[i].Left += by
	case 3:
		m.Edges[i].Right += by
	case 4:
		m.Edges[i].Line += by
	case 5:
		m.Faces += by
	case 6:
		m.Points[j].X += by
	case 7:
		m.Points[j].Y += by
	case 8:
		m.Edges = slices.Delete(m.Edges, i, i+1)
	}
}

// All functions but Build and Check first return the error of Check.
func TestMapErrors(t *testing.T) {
	for _, change := range []func(m *api.Map){
		func(m *api.Map) { *m = api.Map{} },
		func(m *api.Map) { m.Faces = 3 },
		func(m *api.Map) { m.Points[0] = pt(-1, 0) },
		func(m *api.Map) { m.Edges[0].A = tiny },
		func(m *api.Map) { m.Edges[0].Left = huge },
		func(m *api.Map) { m.Edges[8].B = 99 },
	} {
		m := chapterMap()
		change(&m)
		for name, e := range map[string]result[bool]{
			"Next":                zeroed(faces.Next(m, 0)),
			"Walk":                zeroed(faces.Walk(m, 1)),
			"Area2":               zeroed(faces.Area2(m, 1)),
			"Shared":              zeroed(faces.Shared(m, 1, 2)),
			"Dead":                zeroed(faces.Dead(m)),
			"Length":              zeroed(faces.Length(m, []int{1})),
			"Length, of too many": zeroed(faces.Length(m, make([]int, 401))),
			"Neighbours":          zeroed(faces.Neighbours(m, 1)),
			"Touching":            zeroed(faces.Touching(m)),
			"Span, of none":       zeroed(spanOf(m, nil)),
			"Span, of one twice":  zeroed(spanOf(m, []int{1, 1})),
			"Parts":               zeroed(faces.Parts(m, []int{1, 1})),
			"Border":              zeroed(faces.Border(m, []int{1, 1})),
			"Outline":             zeroed(faces.Outline(m, []int{1, 1})),
			"At":                  zeroed(faces.At(m, pt(2, 2))),
			"On":                  zeroed(faces.On(m, pt(2, 2))),
			"Above":               zeroed(faces.Above(m, 1, 2)),
			"Column":              zeroed(faces.Column(m, 1)),
			"Way":                 zeroed(faces.Way(m, 1, 2)),
			"Split":               zeroed(splitOf(m, sg(0, 0, 4, 4), 3)),
			"Without":             zeroed(withoutOf(m, 7)),
			"Move":                zeroed(faces.Move(m, 1, 1)),
			"Mirror":              zeroed(mirrorOf(m, 9)),
		} {
			wants(t, name+" of a map that is not valid", e, true, api.ErrArg)
		}
	}
}

// changed is a map and the faces that come with it.
type changed struct {
	m     api.Map
	faces []int
}

func splitOf(m api.Map, s api.Seg, line int) (changed, api.Errno) {
	out, l, e := faces.Split(m, s, line)
	return changed{out, l}, e
}

func withoutOf(m api.Map, line int) (changed, api.Errno) {
	out, l, e := faces.Without(m, line)
	return changed{out, l}, e
}

func mirrorOf(m api.Map, width int) (changed, api.Errno) {
	out, l, e := faces.Mirror(m, width)
	return changed{out, l}, e
}

// spanOf returns the least and the greatest Y of Span.
func spanOf(m api.Map, l []int) ([2]int, api.Errno) {
	low, high, e := faces.Span(m, l)
	return [2]int{low, high}, e
}

// zeroed says whether a value is the zero value.
func zeroed[T any](value T, e api.Errno) result[bool] {
	var zero T
	return result[bool]{same(value, zero), e}
}
