package faces_test

import (
	"slices"
	"testing"

	"giornata/api"
	"giornata/faces"
	"giornata/plane"
)

// wantsChange compares a changed map and the faces with it; with an error both are zero.
func wantsChange(t *testing.T, name string, got result[changed], m api.Map, numbers []int, e api.Errno) {
	t.Helper()
	if got.e != e || !sameMap(got.value.m, m) || !slices.Equal(got.value.faces, numbers) {
		t.Errorf("%s: %v, %v, error %d, want %v, %v, %d", name, got.value.m, got.value.faces, got.e, m, numbers, e)
	}
}

// B16
func TestSplit(t *testing.T) {
	bare := built(t, square)
	halves := built(t, square, sg(0, 2, 4, 2))
	lines := chapterMap()
	lines.Edges[5].Line = 0
	wantsChange(t, "Split by a dead end", of(splitOf(halves, sg(2, 3, 2, 2), 1)), chapterMap(), []int{0, 1, 2}, api.OK)
	wantsChange(t, "Split by a line that is there", of(splitOf(halves, sg(2, 3, 2, 2), 0)), lines, []int{0, 1, 2}, api.OK)
	wantsChange(t, "Split across", of(splitOf(bare, sg(4, 2, 0, 2), 0)), halves, []int{0, 1, 1}, api.OK)
	wantsChange(t, "Split in the face 2", of(splitOf(halves, sg(0, 3, 4, 3), 7)), built7(t), []int{0, 1, 2, 2}, api.OK)
	walled := api.Map{Points: list(0, 0, 0, 4, 4, 0, 4, 4), Faces: 2, Edges: edges(
		[5]int{0, 1, 0, 1, -1}, [5]int{0, 2, 2, 0, -1}, [5]int{0, 3, 1, 2, -1}, [5]int{1, 3, 0, 1, -1}, [5]int{2, 3, 2, 0, -1})}
	wantsChange(t, "Split by a part of the wall", of(splitOf(bare, sg(0, 0, 4, 4), -1)), walled, []int{0, 1, 1}, api.OK)
	// The dead end of the chapter's map becomes a part of a border.
	cell := built(t, square, chapterLines[0], chapterLines[1], sg(2, 3, 0, 3))
	wantsChange(t, "Split from a dead end", of(splitOf(chapterMap(), sg(2, 3, 0, 3), 2)), cell, []int{0, 1, 2, 2}, api.OK)
	crossed := built(t, square, sg(0, 4, 4, 0), sg(0, 0, 2, 2), sg(2, 2, 4, 4))
	crossed.Edges[6].Line = 1
	touched := built(t, square, sg(0, 4, 2, 2), sg(2, 2, 4, 0))
	for i, e := range touched.Edges {
		touched.Edges[i].Line = min(e.Line, 0)
	}
	wantsChange(t, "Split through a point", of(splitOf(touched, sg(4, 4, 0, 0), 1)), crossed, []int{0, 1, 1, 2, 2}, api.OK)
}

// built7 is the square with lines at the heights 2 and 3, of which the second one is the line 7.
func built7(t *testing.T) api.Map {
	m := built(t, square, sg(0, 2, 4, 2), sg(0, 3, 4, 3))
	for i, e := range m.Edges {
		if e.Line == 1 {
			m.Edges[i].Line = 7
		}
	}
	return m
}

// B16
func TestSplitErrors(t *testing.T) {
	m := chapterMap()
	bent := built(t, list(0, 0, 6, 0, 6, 6, 3, 2, 0, 6))
	notched := built(t, list(0, 0, 8, 0, 8, 6, 6, 6, 5, 4, 4, 2, 3, 4, 2, 6, 0, 6))
	for _, x := range []struct {
		name string
		m    api.Map
		s    api.Seg
		line int
		e    api.Errno
	}{
		{"a point", m, sg(1, 2, 1, 2), 0, api.ErrArg},
		{"a segment out of range", m, sg(1, 2, 1, -1), 0, api.ErrArg},
		{"a segment out of range at its other end", m, sg(1, -1, 1, 2), 0, api.ErrArg},
		{"a segment far out of range", m, sg(huge, 2, 1, tiny), 0, api.ErrArg},
		{"the line -2", m, sg(0, 2, 1, 1), -2, api.ErrArg},
		{"the line 200", m, sg(0, 2, 1, 1), 200, api.ErrArg},
		{"the line 199", m, sg(0, 2, 1, 1), 199, api.OK},
		{"a very great line", m, sg(0, 2, 1, 1), huge, api.ErrArg},
		{"the line 200, and a segment that crosses", m, sg(1, 1, 1, 3), 200, api.ErrArg},
		{"a segment that crosses", m, sg(1, 1, 1, 3), 3, api.ErrCross},
		{"a segment that crosses, and leaves the wall", m, sg(3, 3, 5, 3), 3, api.ErrCross},
		{"a segment that overlaps", m, sg(1, 2, 2, 2), 3, api.ErrCross},
		{"an edge", m, sg(2, 3, 2, 2), 3, api.ErrCross},
		{"a segment outside", m, sg(5, 5, 6, 6), 3, api.ErrArg},
		{"a segment outside that touches the wall", m, sg(4, 1, 5, 1), 3, api.ErrArg},
		{"a segment outside between two points", bent, sg(0, 6, 6, 6), 3, api.ErrArg},
		{"a segment that is outside in the middle", notched, sg(1, 4, 7, 4), 3, api.ErrArg},
		{"a segment that ends at the notch", notched, sg(1, 4, 3, 4), 3, api.OK},
		{"a segment that leaves the wall at a corner", bent, sg(3, 1, 3, 5), 3, api.ErrArg},
		{"a segment through a corner", bent, sg(0, 2, 6, 2), 3, api.OK},
		{"a segment along edges outside", joinedTriangles(), sg(0, 2, 4, 2), 3, api.ErrArg},
		{"a segment outside beside a dead end", joinedTriangles(), sg(2, 1, 2, 2), 3, api.ErrArg},
		{"a loose segment", m, sg(1, 1, 2, 1), 3, api.ErrLoose},
		{"a loose segment in a notched wall", notched, sg(1, 1, 7, 1), 3, api.ErrLoose},
		{"a segment that touches a dead end alone", m, sg(3, 3, 1, 3), 3, api.OK},
	} {
		got, numbers, e := faces.Split(x.m, x.s, x.line)
		if e != x.e || e != api.OK && (!sameMap(got, api.Map{}) || len(numbers) > 0) || e == api.OK && faces.Check(got) != api.OK {
			t.Errorf("Split by %s: %v, %v, error %d, want %d", x.name, got, numbers, e, x.e)
		}
	}
}

// B16
func TestSplitLimits(t *testing.T) {
	rooms := built(t, tower(300), shelves(99)...)
	full := built(t, tower(300), stubs(198)...)
	almost := built(t, tower(300), append(stubs(197), sg(4, 0, 3, 1))...)
	two := built(t, tower(300), append(stubs(196), sg(0, 250, 4, 250), sg(4, 0, 3, 1))...)
	if len(full.Edges) != 400 || len(almost.Edges) != 399 || len(two.Edges) != 400 || len(two.Points) != 399 {
		t.Fatalf("%d, %d, %d edges, %d points", len(full.Edges), len(almost.Edges), len(two.Edges), len(two.Points))
	}
	for _, x := range []struct {
		name string
		m    api.Map
		s    api.Seg
		e    api.Errno
	}{
		{"a 101st face", rooms, sg(0, 250, 4, 250), api.ErrLimit},
		{"a dead end in 100 faces", rooms, sg(0, 250, 3, 250), api.OK},
		{"a 401st edge", full, sg(4, 300, 3, 250), api.ErrLimit},
		{"a 401st edge, but 400 points", two, sg(4, 300, 3, 270), api.ErrLimit},
		{"a 402nd edge", full, sg(4, 250, 3, 250), api.ErrLimit},
		{"a 400th edge", almost, sg(4, 300, 3, 250), api.OK},
		{"a 401st edge inside another one", almost, sg(4, 250, 3, 250), api.ErrLimit},
		{"a 401st edge outside", full, sg(4, 300, 5, 250), api.ErrArg},
		{"a loose 401st edge", full, sg(3, 250, 3, 260), api.ErrLoose},
		{"a 401st edge that crosses", full, sg(1, 0, 1, 9), api.ErrCross},
	} {
		got, numbers, e := faces.Split(x.m, x.s, 3)
		if e != x.e || e != api.OK && (!sameMap(got, api.Map{}) || len(numbers) > 0) {
			t.Errorf("Split with %s: %d edges, %v, error %d, want %d", x.name, len(got.Edges), numbers, e, x.e)
		}
	}
}

// wantedSplit is what Split has to return for a small map, by the errors of the chapter and the model.
func wantedSplit(m api.Map, s api.Seg, line int) (changed, api.Errno) {
	touching := false
	for _, e := range m.Edges {
		switch plane.Meet(s, ends(m, e)) {
		case api.MeetCross, api.MeetOverlap:
			return changed{}, api.ErrCross
		case api.MeetEnd, api.MeetTouch:
			touching = true
		}
	}
	big := scaled(m, 2)
	l := cutAll(append(piecesOf(m), piece{s, line}))
	for _, p := range l {
		if !slices.Contains(piecesOf(m), p) && plane.On(p.A, s) && plane.On(p.B, s) && modelAt(big, pt(p.A.X+p.B.X, p.A.Y+p.B.Y)) == 0 {
			return changed{}, api.ErrArg
		}
	}
	if !touching {
		return changed{}, api.ErrLoose
	}
	var out changed
	out.m, _ = model(l)
	within := insides(out.m, 6)
	for f := range out.m.Faces + 1 {
		out.faces = append(out.faces, modelAt(scaled(m, fine), within[f]))
	}
	return out, api.OK
}

// B16 and P2.7
func TestSplitOnGrid(t *testing.T) {
	d := &dice{40}
	count := map[api.Errno]int{}
	for _, m := range maps(40, 150) {
		for range 12 {
			s, line := d.seg(6), d.roll(6)-1
			w, e := wantedSplit(m, s, line)
			count[e]++
			got := of(splitOf(m, s, line))
			wantsChange(t, "Split", got, w.m, w.faces, e)
			if e != api.OK {
				continue
			}
			areas := make([]int, m.Faces+1)
			for f, old := range got.value.faces {
				area, _ := faces.Area2(got.value.m, f)
				areas[old] += area
			}
			for f, sum := range areas {
				area, _ := faces.Area2(m, f)
				want(t, "the areas in a face that was split", sum, area)
			}
		}
	}
	for _, e := range []api.Errno{api.OK, api.ErrArg, api.ErrCross} {
		if count[e] < 100 {
			t.Errorf("only %d splits with error %d", count[e], e)
		}
	}
	if count[api.ErrLoose] < 5 {
		t.Errorf("only %d loose splits", count[api.ErrLoose])
	}
}

// B17
func TestWithout(t *testing.T) {
	m := chapterMap()
	halves := built(t, square, sg(0, 2, 4, 2))
	wantsChange(t, "Without(1)", of(withoutOf(m, 1)), without1(), []int{0, 1, 2}, api.OK)
	wantsChange(t, "Without(0)", of(withoutOf(m, 0)), api.Map{}, nil, api.ErrLoose)
	wantsChange(t, "Without a line that is not there", of(withoutOf(m, 2)), api.Map{}, nil, api.ErrNone)
	wantsChange(t, "Without the last line", of(withoutOf(m, 199)), api.Map{}, nil, api.ErrNone)
	for _, line := range []int{-1, -2, 200, huge, tiny} {
		wantsChange(t, "Without no line", of(withoutOf(m, line)), api.Map{}, nil, api.ErrArg)
	}
	bare := built(t, list(0, 0, 4, 0, 4, 2, 4, 4, 0, 4, 0, 2))
	wantsChange(t, "Without the line across", of(withoutOf(halves, 0)), bare, []int{0, 1, 1}, api.OK)
	two := built(t, tower(3), shelves(2)...)
	one := built(t, list(0, 0, 4, 0, 4, 1, 4, 3, 0, 3, 0, 1), sg(0, 2, 4, 2))
	for i, e := range one.Edges {
		if e.Line == 0 {
			one.Edges[i].Line = 1
		}
	}
	wantsChange(t, "Without the lower line", of(withoutOf(two, 0)), one, []int{0, 1, 1, 2}, api.OK)
}

// without1 is the chapter's map without the line 1: the point (2, 2) stays an end of edges.
func without1() api.Map {
	return api.Map{Points: list(0, 0, 0, 2, 0, 4, 2, 2, 4, 0, 4, 2, 4, 4), Faces: 2, Edges: edges(
		[5]int{0, 1, 0, 1, -1}, [5]int{0, 4, 1, 0, -1}, [5]int{1, 2, 0, 2, -1}, [5]int{1, 3, 2, 1, 0}, [5]int{2, 6, 0, 2, -1},
		[5]int{3, 5, 2, 1, 0}, [5]int{4, 5, 1, 0, -1}, [5]int{5, 6, 2, 0, -1})}
}

// B17: what is left may be no map in several ways, and a face may lose all its edges.
func TestWithoutFigures(t *testing.T) {
	big := []piece{{sg(0, 0, 9, 0), 1}, {sg(0, 0, 0, 9), 1}, {sg(0, 9, 9, 0), 1}}
	small := []piece{{sg(0, 0, 2, 1), 2}, {sg(0, 0, 1, 2), 2}, {sg(1, 2, 2, 1), 2}}
	m, _ := model(cutAll(append(slices.Clone(big), small...)))
	outer, _ := model(cutAll(big))
	inner, _ := model(cutAll(small))
	wantsChange(t, "Without a face", of(withoutOf(m, 2)), outer, []int{0, 1, 1}, api.OK)
	wantsChange(t, "Without the faces round another one", of(withoutOf(m, 1)), inner, []int{0, 0, 1}, api.OK)
	wantsChange(t, "Without all", of(withoutOf(outer, 1)), api.Map{}, nil, api.ErrLoose)
	tree, _ := model(cutAll(append(slices.Clone(big), piece{sg(9, 0, 10, 0), 3}, piece{sg(10, 0, 11, 0), 3}, piece{sg(11, 0, 12, 0), 3})))
	wantsChange(t, "Without all but dead ends", of(withoutOf(tree, 1)), api.Map{}, nil, api.ErrLoose)
	apart, _ := model(cutAll(append(slices.Clone(big), piece{sg(9, 0, 10, 0), 3}, piece{sg(10, 0, 11, 0), 4})))
	wantsChange(t, "Without what holds a dead end", of(withoutOf(apart, 3)), api.Map{}, nil, api.ErrLoose)
	held, _ := model(cutAll(append(slices.Clone(big), piece{sg(9, 0, 10, 0), 3})))
	wantsChange(t, "Without a dead end behind another one", of(withoutOf(apart, 4)), held, []int{0, 1}, api.OK)
	wantsChange(t, "Without a dead end outside", of(withoutOf(held, 3)), outer, []int{0, 1}, api.OK)
}

// wantedWithout is what Without has to return for a small map that has a line.
func wantedWithout(m api.Map, line int) (changed, api.Errno) {
	rest := slices.DeleteFunc(piecesOf(m), func(p piece) bool { return p.line == line })
	if len(rest) == len(m.Edges) {
		return changed{}, api.ErrNone
	}
	if !connected(rest) || len(rest) == 0 {
		return changed{}, api.ErrLoose
	}
	var out changed
	if out.m, _ = model(rest); !valid(out.m) {
		return changed{}, api.ErrLoose
	}
	within := insides(m, 6)
	for f := range m.Faces + 1 {
		out.faces = append(out.faces, modelAt(scaled(out.m, fine), within[f]))
	}
	return out, api.OK
}

// B17
func TestWithoutOnGrid(t *testing.T) {
	count := map[api.Errno]int{}
	for _, m := range maps(41, 250) {
		for line := range 5 {
			w, e := wantedWithout(m, line)
			wantsChange(t, "Without", of(withoutOf(m, line)), w.m, w.faces, e)
			count[e]++
		}
	}
	for _, e := range []api.Errno{api.OK, api.ErrNone, api.ErrLoose} {
		if count[e] < 50 {
			t.Errorf("only %d maps with error %d", count[e], e)
		}
	}
}

// B16, B17 and P2.7: what a new line parted, Without joins again.
func TestSplitAndWithout(t *testing.T) {
	d := &dice{42}
	parted := 0
	for _, m := range maps(42, 150) {
		for range 30 {
			s := d.seg(6)
			split, from, e := faces.Split(m, s, 77)
			if e != api.OK {
				continue
			}
			back, to, e := faces.Without(split, 77)
			want(t, "the error of Without", e, api.OK)
			want(t, "the faces of Without", back.Faces, m.Faces)
			var areas, before []int
			for f := range m.Faces + 1 {
				a, _ := faces.Area2(back, f)
				b, _ := faces.Area2(m, f)
				areas, before = append(areas, a), append(before, b)
			}
			slices.Sort(areas)
			slices.Sort(before)
			want(t, "the areas of Without", areas, before)
			for f, g := range to {
				for h := range f {
					if (g == to[h]) != (from[f] == from[h]) {
						t.Fatalf("the faces %d and %d of %v: from %v, to %v", h, f, split, from, to)
					}
				}
			}
			if split.Faces > m.Faces {
				parted++
			}
		}
	}
	if parted < 50 {
		t.Errorf("only %d segments part faces", parted)
	}
}

// B18 and P2.7
func TestMove(t *testing.T) {
	m := chapterMap()
	for _, x := range []struct {
		dx, dy int
		e      api.Errno
	}{
		{0, 0, api.OK}, {5, 7, api.OK}, {9996, 9996, api.OK}, {9997, 0, api.ErrArg}, {0, 9997, api.ErrArg},
		{-1, 0, api.ErrArg}, {0, -1, api.ErrArg}, {20000, 0, api.ErrArg}, {20001, 0, api.ErrArg}, {0, -20001, api.ErrArg},
		{huge, 0, api.ErrArg}, {0, tiny, api.ErrArg},
	} {
		w := api.Map{}
		if x.e == api.OK {
			w = cloned(m)
			for i, p := range w.Points {
				w.Points[i] = pt(p.X+x.dx, p.Y+x.dy)
			}
		}
		wants(t, "Move", of(faces.Move(m, x.dx, x.dy)), w, x.e)
	}
	far, _ := faces.Move(m, 9000, 500)
	wants(t, "Move back", of(faces.Move(far, -9000, -500)), m, api.OK)
	for _, m := range maps(43, 30) {
		moved, e := faces.Move(m, 17, 4)
		if e != api.OK || faces.Check(moved) != api.OK || !slices.Equal(moved.Edges, m.Edges) || moved.Faces != m.Faces {
			t.Fatalf("Move(%v): %v, error %d", m, moved, e)
		}
	}
}

// B18
func TestMirror(t *testing.T) {
	m := chapterMap()
	wantsChange(t, "Mirror", of(mirrorOf(m, 4)), m, []int{0, 1, 2}, api.OK)
	beside := built(t, square, sg(1, 0, 1, 4))
	turned := built(t, square, sg(3, 0, 3, 4))
	wantsChange(t, "Mirror of faces beside each other", of(mirrorOf(beside, 4)), turned, []int{0, 2, 1}, api.OK)
	moved := built(t, list(6, 0, 10, 0, 10, 4, 6, 4), sg(9, 0, 9, 4))
	wantsChange(t, "Mirror further away", of(mirrorOf(beside, 10)), moved, []int{0, 2, 1}, api.OK)
	for _, width := range []int{3, 0, -1, -4, 10001, 20000, 20001, -20001, huge, tiny} {
		wantsChange(t, "Mirror with an error", of(mirrorOf(m, width)), api.Map{}, nil, api.ErrArg)
	}
	right := built(t, list(10000, 0, 9990, 0, 9990, 5))
	_, numbers, e := faces.Mirror(right, 19990)
	wants(t, "Mirror of a wall on the right", of(numbers, e), []int{0, 1}, api.OK)
	_, numbers, e = faces.Mirror(right, 20000)
	wants(t, "Mirror of a wall on the right, beyond it", of(numbers, e), nil, api.ErrArg)
}

// B18 and P2.7: Mirror keeps areas, neighbours and what lies above what, and is undone by itself.
func TestMirrorOnGrid(t *testing.T) {
	for _, m := range maps(44, 120) {
		got, numbers, e := faces.Mirror(m, 6)
		var l []piece
		for _, p := range piecesOf(m) {
			l = append(l, piece{api.Seg{A: pt(6-p.A.X, p.A.Y), B: pt(6-p.B.X, p.B.Y)}, p.line})
		}
		w, _ := model(cutAll(l))
		within := insides(m, 6)
		var mirrored []int
		for f := range m.Faces + 1 {
			p := within[f]
			if _, inside := within[f]; !inside {
				p = pt(10000, 10000)
			}
			mirrored = append(mirrored, modelAt(scaled(w, fine), pt(max(6*fine-p.X, 0), p.Y)))
		}
		wantsChange(t, "Mirror", result[changed]{changed{got, numbers}, e}, w, mirrored, api.OK)
		again, back, e := faces.Mirror(got, 6)
		wants(t, "Mirror of Mirror", of(again, e), m, api.OK)
		for f, g := range numbers {
			want(t, "the number of a face behind two mirrors", back[g], f)
			before, _ := faces.Area2(m, f)
			after, _ := faces.Area2(got, g)
			want(t, "the area of a mirrored face", after, before)
			var near []int
			old, _ := faces.Neighbours(m, f)
			for _, h := range old {
				near = append(near, numbers[h])
				one, a := faces.Above(m, f, h)
				other, b := faces.Above(got, g, numbers[h])
				want(t, "what lies above what in a mirror", of(other, b), of(one, a))
			}
			slices.Sort(near)
			wants(t, "the neighbours of a mirrored face", of(faces.Neighbours(got, g)), near, api.OK)
		}
	}
}
