package plane_test

import (
	"slices"
	"testing"

	"giornata/api"
	"giornata/plane"
)

// R1: no function panics, whatever the fields are.
func TestAnyNumbers(t *testing.T) {
	numbers := []int{tiny, tiny + 1, -20001, -1, 0, 1, 10000, 10001, 20001, huge - 1, huge}
	d := &dice{1}
	n := func() int { return numbers[d.roll(len(numbers))] }
	p := func() api.Point { return pt(n(), n()) }
	s := func() api.Seg { return api.Seg{A: p(), B: p()} }
	for range 2000 {
		var points []api.Point
		var segs []api.Seg
		var strips []api.Strip
		var triangles []api.Triangle
		for range d.roll(6) {
			points, segs = append(points, p()), append(segs, s())
			strips = append(strips, api.Strip{From: n(), To: n(), Segs: []int{n(), n()}})
			triangles = append(triangles, api.Triangle{A: p(), B: p(), C: p()})
		}
		plane.CheckPoint(p())
		plane.Turn(p(), p(), p())
		plane.On(p(), s())
		plane.Meet(s(), s())
		plane.Cross(s(), s())
		plane.Above(s(), s())
		plane.Length(points)
		plane.Box(points)
		plane.CheckPoly(points)
		plane.Area2(points)
		plane.Normal(points)
		plane.Convex(points)
		plane.Where(points, p())
		plane.Within(points, s())
		plane.Hull(points)
		plane.Triangles(points)
		plane.CheckTriangles(points, triangles)
		plane.CheckTriangles(square, triangles)
		plane.Crossing(segs)
		plane.Split(segs)
		plane.Sweep(segs)
		plane.CheckSweep(segs, strips)
		plane.CheckSweep([]api.Seg{sg(0, 0, 1, 0), sg(10000, 1, 1, 1)}, strips)
		plane.Move(points, n(), n())
		plane.Mirror(points, n())
		plane.Enlarge(points, n())
	}
}

// calls are functions that take and return slices; each spoils what it gets, and returns it spelt out.
func calls(points []api.Point, segs []api.Seg, strips []api.Strip, triangles []api.Triangle) []func() any {
	spoilt := func(l []api.Point) any {
		out := slices.Clone(l)
		l = append(l, pt(77, 77))
		for i := range l {
			l[i] = pt(99, 99)
		}
		return out
	}
	return []func() any{
		func() any { return plane.Length(points) },
		func() any { _, high, _ := plane.Box(points); return high },
		func() any { return plane.CheckPoly(points) },
		func() any { return plane.Area2(points) },
		func() any { l, _ := plane.Normal(points); return spoilt(l) },
		func() any { return plane.Convex(points) },
		func() any { return plane.Where(points, pt(1, 1)) },
		func() any { return plane.Within(points, sg(0, 0, 3, 2)) },
		func() any { l, _ := plane.Hull(points); return spoilt(l) },
		func() any { l, _ := plane.Hull(points[:1]); return spoilt(l) },
		func() any { l, _ := plane.Hull(points[:2]); return spoilt(l) },
		func() any { l, _ := plane.Move(points, 0, 0); return spoilt(l) },
		func() any { l, _ := plane.Mirror(points, 6); return spoilt(l) },
		func() any { l, _ := plane.Enlarge(points, 1); return spoilt(l) },
		func() any { return plane.CheckTriangles(points, triangles) },
		func() any { i, _, _, _ := plane.Crossing(segs); return i },
		func() any { return plane.CheckSweep(segs, strips) },
		func() any {
			l, _ := plane.Triangles(points)
			out := slices.Clone(l)
			for i := range l {
				l[i] = api.Triangle{}
			}
			return out
		},
		func() any {
			l, _ := plane.Split(segs)
			out := slices.Clone(l)
			for i := range l {
				l[i] = api.Seg{}
			}
			return out
		},
		func() any {
			c, _ := plane.Sweep(segs)
			out := copied(c)
			for i := range c {
				c[i].Segs = append(c[i].Segs, 99)
			}
			for i := range c {
				if n := len(c[i].Segs); !slices.Equal(c[i].Segs[:n-1], out[i].Segs) {
					return "two strips share memory"
				}
			}
			return out
		},
	}
}

// R3 and R4: functions leave their arguments alone, and calls leave no trace.
func TestArgumentsStay(t *testing.T) {
	points := list(0, 6, 3, 2, 6, 6, 6, 0, 0, 0)
	segs := []api.Seg{sg(9, 0, 0, 0), sg(4, 3, 4, 4), sg(8, 3, 1, 3), sg(5, 1, 3, 1), sg(6, 2, 6, 1)}
	triangles, _ := plane.Triangles(points)
	strips, _ := plane.Sweep(segs)
	keptPoints, keptSegs, keptStrips, keptTriangles := slices.Clone(points), slices.Clone(segs), copied(strips), slices.Clone(triangles)
	for i, call := range calls(points, segs, strips, triangles) {
		first := call()
		for _, other := range calls(list(3, 3, 9, 4, 1, 8, 2, 2), []api.Seg{sg(1, 1, 2, 2), sg(5, 5, 1, 0)}, nil, nil) {
			other()
		}
		if again := call(); !same(first, again) {
			t.Errorf("call %d: first %v, then %v", i, first, again)
		}
		if first == "two strips share memory" {
			t.Errorf("call %d: %v", i, first)
		}
		if !slices.Equal(points, keptPoints) || !slices.Equal(segs, keptSegs) || !sameStrips(strips, keptStrips) || !slices.Equal(triangles, keptTriangles) {
			t.Fatalf("call %d changes an argument", i)
		}
	}
}

// R3: a nil slice and an empty one are equivalent, also within structs.
func TestNilAndEmpty(t *testing.T) {
	want(t, "CheckPoly", plane.CheckPoly([]api.Point{}), plane.CheckPoly(nil))
	want(t, "Area2", plane.Area2([]api.Point{}), 0)
	want(t, "Length", plane.Length([]api.Point{}), 0)
	h, e := plane.Hull([]api.Point{})
	want(t, "Hull", h, []api.Point(nil))
	want(t, "error of Hull", e, api.OK)
	s, e := plane.Split([]api.Seg{})
	want(t, "Split", s, []api.Seg(nil))
	want(t, "error of Split", e, api.OK)
	w, e := plane.Sweep([]api.Seg{})
	want(t, "Sweep", w, []api.Strip(nil))
	want(t, "error of Sweep", e, api.OK)
	want(t, "CheckSweep", plane.CheckSweep([]api.Seg{}, []api.Strip{}), true)
	apart := []api.Seg{sg(0, 0, 2, 0), sg(5, 1, 7, 1)}
	want(t, "CheckSweep with a nil strip", plane.CheckSweep(apart, []api.Strip{strip(0, 2, 0), {From: 2, To: 5}, strip(5, 7, 1)}), true)
	want(t, "CheckSweep with an empty strip", plane.CheckSweep(apart, []api.Strip{strip(0, 2, 0), {From: 2, To: 5, Segs: []int{}}, strip(5, 7, 1)}), true)
}
