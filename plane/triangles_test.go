package plane_test

import (
	"slices"
	"testing"

	"giornata/api"
	"giornata/plane"
)

// A11
func TestTriangles(t *testing.T) {
	for _, x := range []struct {
		l    []api.Point
		want []api.Triangle
	}{
		{square, []api.Triangle{tri(0, 4, 0, 0, 4, 0), tri(4, 0, 4, 4, 0, 4)}},
		{reversed(square), []api.Triangle{tri(0, 4, 0, 0, 4, 0), tri(4, 0, 4, 4, 0, 4)}},
		{list(4, 4, 4, 2, 4, 0, 0, 0), []api.Triangle{tri(0, 0, 4, 0, 4, 4)}},
		{list(0, 4, 0, 0, 4, 4), []api.Triangle{tri(0, 0, 4, 4, 0, 4)}},
		// (3, 2) is in the triangles of (0, 0) and (6, 0), so (6, 6) is the first ear.
		{bent, []api.Triangle{tri(6, 0, 6, 6, 3, 2), tri(0, 0, 6, 0, 3, 2), tri(0, 0, 3, 2, 0, 6)}},
		// (2, 2) is on the border of the triangles of (0, 0) and (4, 0), so (4, 4) is the first ear.
		{list(0, 0, 4, 0, 4, 4, 2, 2, 0, 4), []api.Triangle{tri(4, 0, 4, 4, 2, 2), tri(0, 0, 4, 0, 2, 2), tri(0, 0, 2, 2, 0, 4)}},
	} {
		got, e := plane.Triangles(x.l)
		if e != api.OK || !slices.Equal(got, x.want) {
			t.Errorf("Triangles(%v): %v, error %d, want %v", x.l, got, e, x.want)
		}
	}
	for _, x := range notSimple() {
		if got, e := plane.Triangles(x.l); e != x.e || len(got) != 0 {
			t.Errorf("Triangles(%v): %v, error %d, want %d", x.l, got, e, x.e)
		}
	}
}

// ears cuts a polygon as the chapter says.
func ears(t *testing.T, l []api.Point) []api.Triangle {
	t.Helper()
	rest, e := plane.Normal(l)
	if e != api.OK {
		t.Fatalf("Normal(%v): error %d", l, e)
	}
	var out []api.Triangle
	for len(rest) > 3 {
		i := slices.IndexFunc(rest, func(b api.Point) bool { return isEar(rest, b) })
		if i < 0 {
			t.Fatalf("no ear in %v", rest)
		}
		a, c := rest[(i+len(rest)-1)%len(rest)], rest[(i+1)%len(rest)]
		out = append(out, api.Triangle{A: a, B: rest[i], C: c})
		rest = slices.Concat(rest[:i], rest[i+1:])
	}
	return append(out, api.Triangle{A: rest[0], B: rest[1], C: rest[2]})
}

func isEar(l []api.Point, b api.Point) bool {
	i := slices.Index(l, b)
	a, c := l[(i+len(l)-1)%len(l)], l[(i+1)%len(l)]
	if area([]api.Point{a, b, c}) <= 0 {
		return false
	}
	for _, p := range l {
		if p != a && p != b && p != c && inTriangle(p, api.Triangle{A: a, B: b, C: c}) {
			return false
		}
	}
	return true
}

// A11 and P1.3
func TestTrianglesOnGrid(t *testing.T) {
	d := &dice{11}
	for range 200 {
		l := d.polygon(6, 3+d.roll(10))
		got, e := plane.Triangles(l)
		if want := ears(t, l); e != api.OK || !slices.Equal(got, want) {
			t.Fatalf("Triangles(%v): %v, error %d, want %v", l, got, e, want)
		}
		if n := area(l); sum(got) != max(n, -n) {
			t.Fatalf("Triangles(%v): doubled areas %d and %d", l, sum(got), n)
		}
		if !plane.CheckTriangles(l, got) || !plane.CheckTriangles(reversed(l), got) {
			t.Fatalf("CheckTriangles(%v, %v)", l, got)
		}
		for _, p := range gridPoints(7) {
			in := slices.ContainsFunc(got, func(x api.Triangle) bool { return inTriangle(p, x) })
			if in != (plane.Where(l, p) != api.WhereOut) {
				t.Fatalf("Triangles(%v): point %v in a triangle: %v", l, p, in)
			}
		}
	}
}

// A11: the largest polygon.
func TestTrianglesOfComb(t *testing.T) {
	l := comb(200)
	got, e := plane.Triangles(l)
	if e != api.OK || len(got) != 198 || sum(got) != area(l) || !plane.CheckTriangles(l, got) {
		t.Errorf("Triangles of a comb: %d, error %d", len(got), e)
	}
	for i := range got {
		if plane.CheckTriangles(l, slices.Delete(slices.Clone(got), i, i+1)) {
			t.Fatalf("CheckTriangles without triangle %d", i)
		}
	}
}

// A12
func TestCheckTriangles(t *testing.T) {
	halves := []api.Triangle{tri(0, 0, 4, 0, 4, 4), tri(0, 0, 4, 4, 0, 4)}
	for _, x := range []struct {
		name string
		l    []api.Point
		t    []api.Triangle
		ok   bool
	}{
		{"two halves", square, halves, true},
		{"in the other order", square, []api.Triangle{halves[1], halves[0]}, true},
		{"of the polygon backwards", reversed(square), halves, true},
		{"from other corners", square, []api.Triangle{tri(4, 4, 0, 0, 4, 0), tri(0, 4, 0, 0, 4, 4)}, true},
		{"by the other diagonal", square, []api.Triangle{tri(0, 0, 4, 0, 0, 4), tri(4, 0, 4, 4, 0, 4)}, true},
		{"by a point of the inside", square, fan(square, pt(1, 2)), true},
		{"with straight corners of the polygon, which the normal form has not", list(0, 0, 2, 0, 4, 0, 4, 4, 0, 4), halves, true},
		{"none", square, nil, false},
		{"one half", square, halves[:1], false},
		{"one half twice", square, []api.Triangle{halves[0], halves[0]}, false},
		{"a half too many", square, []api.Triangle{halves[0], halves[1], halves[1]}, false},
		{"both diagonals", square, append(slices.Clone(halves), tri(0, 0, 4, 0, 0, 4), tri(4, 0, 4, 4, 0, 4)), false},
		{"one turned right", square, []api.Triangle{halves[0], tri(0, 0, 0, 4, 4, 4)}, false},
		{"all turned right", square, []api.Triangle{tri(4, 4, 4, 0, 0, 0), tri(0, 4, 4, 4, 0, 0)}, false},
		{"all turned right, as the polygon", reversed(square), []api.Triangle{tri(4, 4, 4, 0, 0, 0), tri(0, 4, 4, 4, 0, 0)}, false},
		{"by a point of the outside", square, fan(square, pt(6, 2)), false},
		{"by a point of the border, with a flat one", square, fan(square, pt(4, 2)), false},
		{"by a point of the border, without it", square, []api.Triangle{tri(0, 0, 4, 0, 4, 2), tri(4, 4, 0, 4, 4, 2), tri(0, 4, 0, 0, 4, 2)}, false},
		{"a flat one besides", square, append(slices.Clone(halves), tri(0, 0, 2, 2, 4, 4)), false},
		{"one of equal corners besides", square, append(slices.Clone(halves), tri(2, 2, 2, 2, 2, 2)), false},
		{"one of two equal corners besides", square, append(slices.Clone(halves), tri(2, 2, 2, 2, 3, 3)), false},
		{"one of the zero value besides", square, append(slices.Clone(halves), api.Triangle{}), false},
		{"a corner that is not valid", square, fan(square, pt(-1, 2)), false},
		{"a corner that is too far", square, fan(square, pt(10001, 2)), false},
		{"huge corners", square, append(slices.Clone(halves), tri(huge, 0, tiny, huge, 4, tiny)), false},
		{"with a straight corner", list(0, 0, 2, 0, 4, 0, 4, 4, 0, 4), fan(list(0, 0, 2, 0, 4, 0, 4, 4, 0, 4), pt(1, 2)), false},
		{"of the hull", bent, []api.Triangle{tri(0, 0, 6, 0, 6, 6), tri(0, 0, 6, 6, 0, 6)}, false},
		{"of another square", list(1, 0, 5, 0, 5, 4, 1, 4), halves, false},
		{"of a polygon that is not simple", list(0, 0, 4, 4, 4, 0, 0, 4), halves, false},
		{"none of nothing", nil, nil, false},
		{"of two points", list(0, 0, 4, 0), []api.Triangle{tri(0, 0, 4, 0, 0, 0)}, false},
		{"of a flat polygon", list(0, 0, 2, 0, 4, 0), nil, false},
	} {
		if ok := plane.CheckTriangles(x.l, x.t); ok != x.ok {
			t.Errorf("CheckTriangles, %s: %v", x.name, ok)
		}
	}
	for _, x := range notSimple() {
		if plane.CheckTriangles(x.l, nil) || plane.CheckTriangles(x.l, halves) {
			t.Errorf("CheckTriangles of %v, which is not simple", x.l)
		}
	}
}

// fan returns the triangles from a point to all edges.
func fan(l []api.Point, p api.Point) []api.Triangle {
	var out []api.Triangle
	for _, s := range sides(l) {
		out = append(out, api.Triangle{A: s.A, B: s.B, C: p})
	}
	return out
}

// A12: at most 400 triangles.
func TestCheckTrianglesLimit(t *testing.T) {
	wall := list(0, 0, 10000, 0, 10000, 10000, 0, 10000)
	even := finer(fan(wall, pt(5003, 4999)), 400)
	want(t, "triangles", len(even), 400)
	want(t, "CheckTriangles of 400", plane.CheckTriangles(wall, even), true)
	want(t, "CheckTriangles of 402", plane.CheckTriangles(wall, finer(even, 402)), false)
	one := list(0, 0, 10000, 0, 0, 10000)
	odd := finer(fan(one, pt(3003, 2999)), 399)
	want(t, "triangles", len(odd), 399)
	want(t, "CheckTriangles of 399", plane.CheckTriangles(one, odd), true)
	want(t, "CheckTriangles of 401", plane.CheckTriangles(one, finer(odd, 401)), false)
}

// finer divides the largest triangle by a point of its inside until there are as many as wanted.
func finer(l []api.Triangle, count int) []api.Triangle {
	out := slices.Clone(l)
	for len(out) < count {
		i := 0
		for j, x := range out {
			if sum([]api.Triangle{x}) > sum(out[i:i+1]) {
				i = j
			}
		}
		x := out[i]
		middle := pt((x.A.X+x.B.X+x.C.X)/3, (x.A.Y+x.B.Y+x.C.Y)/3)
		out = append(slices.Delete(out, i, i+1), fan([]api.Point{x.A, x.B, x.C}, middle)...)
	}
	return out
}

// P1.3: whatever CheckTriangles accepts adds up, and covers each point.
func TestCheckTrianglesAddsUp(t *testing.T) {
	d, accepted, refused := &dice{12}, 0, 0
	for range 4000 {
		l := d.polygon(3, 3+d.roll(3))
		n, _ := plane.Normal(l)
		var c []api.Triangle
		if d.roll(2) == 0 {
			c = fan(n, d.point(4))
		} else {
			c, _ = plane.Triangles(l)
		}
		if d.roll(2) == 0 {
			c[d.roll(len(c))].A = d.point(3)
		}
		if !plane.CheckTriangles(l, c) {
			refused++
			continue
		}
		accepted++
		if a := area(l); sum(c) != max(a, -a) {
			t.Fatalf("CheckTriangles(%v, %v): doubled areas %d and %d", l, c, sum(c), a)
		}
		for _, p := range gridPoints(4) {
			in := slices.ContainsFunc(c, func(x api.Triangle) bool { return inTriangle(p, x) })
			if in != (plane.Where(l, p) != api.WhereOut) {
				t.Fatalf("CheckTriangles(%v, %v): point %v in a triangle: %v", l, c, p, in)
			}
		}
	}
	if accepted < 500 || refused < 500 {
		t.Errorf("%d accepted, %d refused", accepted, refused)
	}
}
