package faces_test

import (
	"slices"
	"testing"

	"giornata/api"
	"giornata/faces"
	"giornata/plane"
)

// B1: the wall of the chapter.
func TestBuild(t *testing.T) {
	wants(t, "Build(W)", of(faces.Build(square, chapterLines)), chapterMap(), api.OK)
	backwards := slices.Clone(square)
	slices.Reverse(backwards)
	turned := []api.Seg{sg(4, 2, 0, 2), sg(2, 3, 2, 2)}
	wants(t, "Build(W), other ends first", of(faces.Build(backwards, turned)), chapterMap(), api.OK)
	bare := api.Map{Points: list(0, 0, 0, 4, 4, 0, 4, 4), Faces: 1, Edges: edges(
		[5]int{0, 1, 0, 1, -1}, [5]int{0, 2, 1, 0, -1}, [5]int{1, 3, 0, 1, -1}, [5]int{2, 3, 1, 0, -1})}
	wants(t, "Build of a wall alone", of(faces.Build(square, nil)), bare, api.OK)
	straight := api.Map{Points: list(0, 0, 0, 1, 1, 0, 3, 0), Faces: 1, Edges: edges(
		[5]int{0, 1, 0, 1, -1}, [5]int{0, 2, 1, 0, -1}, [5]int{1, 3, 0, 1, -1}, [5]int{2, 3, 1, 0, -1})}
	wants(t, "Build of a wall with a straight corner", of(faces.Build(list(1, 0, 3, 0, 0, 1, 0, 0), nil)), straight, api.OK)
	crossed := api.Map{Points: list(0, 0, 0, 4, 2, 2, 4, 0, 4, 4), Faces: 4, Edges: edges(
		[5]int{0, 1, 0, 1, -1}, [5]int{0, 2, 1, 2, 1}, [5]int{0, 3, 2, 0, -1}, [5]int{1, 2, 3, 1, 0}, [5]int{1, 4, 0, 3, -1},
		[5]int{2, 3, 4, 2, 0}, [5]int{2, 4, 3, 4, 2}, [5]int{3, 4, 4, 0, -1})}
	wants(t, "Build of a line that others touch from both sides", of(faces.Build(square, []api.Seg{sg(0, 4, 4, 0), sg(0, 0, 2, 2), sg(4, 4, 2, 2)})), crossed, api.OK)
}

// B1
func TestBuildErrors(t *testing.T) {
	bent := list(0, 0, 6, 0, 6, 6, 3, 2, 0, 6)
	outside := sg(5, 5, 6, 6)
	for _, x := range []struct {
		name  string
		wall  []api.Point
		lines []api.Seg
		e     api.Errno
	}{
		{"no wall", nil, nil, api.ErrArg},
		{"a wall of two points", square[:2], nil, api.ErrArg},
		{"a wall of too many points", make([]api.Point, 201), nil, api.ErrLimit},
		{"a wall with a point out of range", list(0, 0, 10001, 0, 0, 4), nil, api.ErrArg},
		{"a wall with a point twice", list(0, 0, 4, 0, 0, 0, 4, 4), nil, api.ErrTwice},
		{"a wall that crosses itself", list(0, 0, 4, 4, 4, 0, 0, 4), nil, api.ErrCross},
		{"a wall that crosses itself, and too many lines", list(0, 0, 4, 4, 4, 0, 0, 4), make([]api.Seg, 201), api.ErrCross},
		{"too many lines", square, make([]api.Seg, 201), api.ErrLimit},
		{"200 lines that are none", square, make([]api.Seg, 200), api.ErrArg},
		{"a line that is a point", square, []api.Seg{sg(1, 1, 1, 1)}, api.ErrArg},
		{"a line out of range", square, []api.Seg{sg(1, 1, 1, -1)}, api.ErrArg},
		{"a line far out of range", square, []api.Seg{sg(huge, 1, 1, tiny)}, api.ErrArg},
		{"a line outside", square, []api.Seg{outside}, api.ErrArg},
		{"a line that leaves the wall", square, []api.Seg{sg(1, 1, 5, 1)}, api.ErrArg},
		{"a line between two corners, outside", bent, []api.Seg{sg(0, 6, 6, 6)}, api.ErrArg},
		{"a line through a corner", bent, []api.Seg{sg(0, 2, 6, 2)}, api.OK},
		{"a line outside behind lines that cross", square, []api.Seg{sg(0, 0, 4, 4), sg(0, 4, 4, 0), outside}, api.ErrArg},
		{"lines that cross", square, []api.Seg{sg(0, 0, 4, 4), sg(0, 4, 4, 0)}, api.ErrCross},
		{"a line twice", square, []api.Seg{sg(0, 0, 4, 4), sg(4, 4, 0, 0)}, api.ErrCross},
		{"lines that overlap", square, []api.Seg{sg(0, 2, 3, 2), sg(2, 2, 4, 2)}, api.ErrCross},
		{"a line along the wall", square, []api.Seg{sg(0, 0, 4, 0)}, api.ErrCross},
		{"a line along a part of the wall", square, []api.Seg{sg(1, 0, 2, 0)}, api.ErrCross},
		{"a loose line, and lines that cross", square, []api.Seg{sg(1, 1, 2, 1), sg(0, 2, 4, 2), sg(2, 0, 2, 4)}, api.ErrCross},
		{"a loose line", square, []api.Seg{sg(1, 1, 2, 1)}, api.ErrLoose},
		{"loose lines that touch each other", square, []api.Seg{sg(0, 3, 4, 3), sg(1, 1, 3, 1), sg(2, 1, 2, 2)}, api.ErrLoose},
		{"a line that another one joins to the wall", square, []api.Seg{sg(1, 1, 3, 1), sg(2, 1, 2, 0)}, api.OK},
		{"lines that go on straight", square, []api.Seg{sg(0, 2, 2, 2), sg(2, 2, 4, 2)}, api.OK},
	} {
		m, e := faces.Build(x.wall, x.lines)
		if e != x.e || e != api.OK && !sameMap(m, api.Map{}) || e == api.OK && faces.Check(m) != api.OK {
			t.Errorf("%s: %v, error %d, want %d", x.name, m, e, x.e)
		}
	}
}

// B1: the limits of edges and faces, and their places among the errors.
func TestBuildLimits(t *testing.T) {
	wall := tower(300)
	loose := sg(1, 250, 2, 251)
	for _, x := range []struct {
		name         string
		lines        []api.Seg
		e            api.Errno
		edges, faces int
	}{
		{"100 faces", shelves(99), api.OK, 301, 100},
		{"101 faces", shelves(100), api.ErrLimit, 0, 0},
		{"101 faces, and a loose line", append(shelves(100), loose), api.ErrLoose, 0, 0},
		{"400 edges", stubs(198), api.OK, 400, 1},
		{"401 edges", append(stubs(198), sg(4, 0, 3, 1)), api.ErrLimit, 0, 0},
		{"402 edges", stubs(199), api.ErrLimit, 0, 0},
		{"402 edges, and a loose line", append(stubs(199), loose), api.ErrLimit, 0, 0},
		{"200 lines", append(stubs(98), fan(102)...), api.OK, 302, 1},
		{"402 edges, and lines that cross", append(stubs(199), sg(1, 0, 1, 9)), api.ErrCross, 0, 0},
	} {
		m, e := faces.Build(wall, x.lines)
		if e != x.e || len(m.Edges) != x.edges || m.Faces != x.faces {
			t.Errorf("%s: %d edges, %d faces, error %d, want %d, %d, %d", x.name, len(m.Edges), m.Faces, e, x.edges, x.faces, x.e)
		}
		if e == api.OK && faces.Check(m) != api.OK {
			t.Errorf("%s: the map is not valid", x.name)
		}
	}
	comb, e := faces.Build(toothed(200), nil)
	if e != api.OK || len(comb.Edges) != 200 || comb.Faces != 1 {
		t.Errorf("a wall with 200 corners: %d edges, error %d", len(comb.Edges), e)
	}
}

// fan returns lines from the corner (4, 300) of a tower, of which each ends at another point inside.
func fan(n int) []api.Seg {
	var out []api.Seg
	for i := range n {
		out = append(out, sg(4, 300, 3, 299-i))
	}
	return out
}

func toothed(corners int) []api.Point {
	var out []api.Point
	for i := range corners - 2 {
		out = append(out, pt(i, i%2))
	}
	return append(out, pt(corners-2, 9), pt(0, 9))
}

// wantedBuild is what Build has to return, by the errors of the chapter and the model.
func wantedBuild(wall []api.Point, lines []api.Seg) (api.Map, api.Errno) {
	if e := plane.CheckPoly(wall); e != api.OK {
		return api.Map{}, e
	}
	var l []piece
	for i, p := range wall {
		l = append(l, piece{api.Seg{A: p, B: wall[(i+1)%len(wall)]}, -1})
	}
	for i, s := range lines {
		if !plane.Within(wall, s) {
			return api.Map{}, api.ErrArg
		}
		l = append(l, piece{s, i})
	}
	for i, p := range l {
		for _, q := range l[:i] {
			if kind := plane.Meet(p.Seg, q.Seg); kind == api.MeetCross || kind == api.MeetOverlap {
				return api.Map{}, api.ErrCross
			}
		}
	}
	if l = cutAll(l); !connected(l) {
		return api.Map{}, api.ErrLoose
	}
	m, _ := model(l)
	return m, api.OK
}

// B1 and P2.1: Build returns the maps of the model, and valid ones alone.
func TestBuildOnGrid(t *testing.T) {
	d := &dice{21}
	count := map[api.Errno]int{}
	for range 1500 {
		size := 4 + d.roll(4)
		wall := d.polygon(size, 3+d.roll(7))
		var lines []api.Seg
		for range 5 + d.roll(20) {
			next := append(slices.Clone(lines), d.seg(size))
			// Most lines that have an error are left out, so that many figures have none. Later lines may hold a loose one.
			if _, e := wantedBuild(wall, next); e == api.OK || e == api.ErrLoose && d.roll(9) == 0 || d.roll(90) == 0 {
				lines = next
			}
		}
		m, e := faces.Build(wall, lines)
		w, we := wantedBuild(wall, lines)
		if e != we || !sameMap(m, w) {
			t.Fatalf("Build(%v, %v): %v, error %d, want %v, %d", wall, lines, m, e, w, we)
		}
		if e == api.OK && (faces.Check(m) != api.OK || !valid(m)) {
			t.Fatalf("Build(%v, %v): %v is not valid", wall, lines, m)
		}
		count[e]++
	}
	for _, e := range []api.Errno{api.OK, api.ErrArg, api.ErrCross, api.ErrLoose} {
		if count[e] < 15 {
			t.Errorf("only %d maps with error %d", count[e], e)
		}
	}
}
