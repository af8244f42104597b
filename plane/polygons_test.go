package plane_test

import (
	"math"
	"slices"
	"testing"

	"giornata/api"
	"giornata/plane"
)

var (
	square = list(0, 0, 4, 0, 4, 4, 0, 4)
	bent   = list(0, 0, 6, 0, 6, 6, 3, 2, 0, 6)
)

// notSimple is lists that are no simple polygons, each with its error.
func notSimple() []struct {
	l []api.Point
	e api.Errno
} {
	return []struct {
		l []api.Point
		e api.Errno
	}{
		{nil, api.ErrArg},
		{list(1, 1), api.ErrArg},
		{list(0, 0, 4, 0), api.ErrArg},
		{list(3, 3, 3, 3), api.ErrArg},
		{list(0, 0, 4, 0, 10001, 3), api.ErrArg},
		{list(0, 0, 4, 0, 4, 10001), api.ErrArg},
		{list(-1, 0, 4, 0, 4, 4), api.ErrArg},
		{list(0, 0, 4, 0, 4, -4), api.ErrArg},
		{list(0, 0, 4, 0, 0, 0, 4, -1), api.ErrArg},
		{list(0, 0, 4, 0, huge, tiny), api.ErrArg},
		{list(0, 0, 4, 0, 0, 0, 4, 4), api.ErrTwice},
		{list(0, 0, 4, 0, 4, 4, 0, 0), api.ErrTwice},
		{list(0, 0, 4, 0, 4, 0, 4, 4), api.ErrTwice},
		{list(0, 0, 4, 4, 4, 0, 0, 4, 0, 0), api.ErrTwice},
		{list(1, 1, 1, 1, 1, 1), api.ErrTwice},
		{list(0, 0, 4, 4, 4, 0, 0, 4), api.ErrCross},
		{list(0, 0, 2, 0, 4, 0), api.ErrCross},
		{list(0, 0, 4, 0, 2, 0), api.ErrCross},
		{list(0, 0, 4, 0, 4, 4, 2, 0), api.ErrCross},
		{list(0, 0, 4, 0, 4, 4, 4, 2, 0, 4), api.ErrCross},
		{list(0, 0, 4, 0, 2, 0, 2, 4), api.ErrCross},
		{list(2, 0, 4, 4, 0, 4, 4, 0), api.ErrCross},
		{list(4, 0, 0, 0, 2, 0, 2, 4), api.ErrCross},
		{list(0, 0, 8, 0, 8, 4, 5, 0, 3, 4, 0, 4), api.ErrCross},
		{make([]api.Point, 201), api.ErrLimit},
		{append(comb(200), pt(-5, 3)), api.ErrLimit},
		{row(201), api.ErrLimit},
		{make([]api.Point, 200), api.ErrTwice},
	}
}

// A6
func TestCheckPoly(t *testing.T) {
	for _, x := range notSimple() {
		if e := plane.CheckPoly(x.l); e != x.e {
			t.Errorf("CheckPoly(%v): %d, want %d", x.l, e, x.e)
		}
	}
	for _, l := range [][]api.Point{
		square, bent, comb(200), comb(8), list(0, 0, 4, 0, 0, 4), list(0, 0, 0, 4, 4, 0),
		list(4, 4, 4, 2, 4, 0, 0, 0), list(0, 0, 1, 0, 2, 0, 3, 0, 3, 3), list(0, 0, 10000, 0, 10000, 10000, 0, 10000),
		list(0, 0, 10000, 9999, 9999, 9998),
	} {
		want(t, "CheckPoly of a simple polygon", plane.CheckPoly(l), api.OK)
		want(t, "CheckPoly of it backwards", plane.CheckPoly(reversed(l)), api.OK)
	}
	want(t, "corners of a comb", len(comb(200)), 200)
}

func reversed(l []api.Point) []api.Point {
	out := slices.Clone(l)
	slices.Reverse(out)
	return out
}

// A6
func TestCheckPolyOnGrid(t *testing.T) {
	d, found := &dice{6}, 0
	for range 6000 {
		var l []api.Point
		for range 3 + d.roll(4) {
			l = append(l, d.point(3))
		}
		e := api.OK
		if !simple(l) {
			e = api.ErrCross
		}
		for i, p := range l {
			if slices.Index(l, p) != i {
				e = api.ErrTwice
			}
		}
		if plane.CheckPoly(l) != e {
			t.Fatalf("CheckPoly(%v): %d, want %d", l, plane.CheckPoly(l), e)
		}
		if e == api.OK {
			found++
		}
	}
	if found < 100 {
		t.Errorf("only %d simple polygons", found)
	}
}

// A7
func TestArea2(t *testing.T) {
	want(t, "Area2 of a square", plane.Area2(square), 32)
	want(t, "Area2 of it backwards", plane.Area2(list(0, 4, 4, 4, 4, 0, 0, 0)), -32)
	want(t, "Area2 of it from another corner", plane.Area2(list(4, 4, 0, 4, 0, 0, 4, 0)), 32)
	want(t, "Area2 of a bent polygon", plane.Area2(bent), 48)
	want(t, "Area2 of two loops", plane.Area2(list(0, 0, 4, 4, 4, 0, 0, 4)), 0)
	want(t, "Area2 of a list that goes round twice", plane.Area2(append(slices.Clone(square), square...)), 64)
	want(t, "Area2 of a point", plane.Area2(list(3, 5)), 0)
	want(t, "Area2 of two points", plane.Area2(list(3, 5, 9, 1)), 0)
	want(t, "Area2 of nothing", plane.Area2(nil), 0)
	want(t, "Area2 over all", plane.Area2(list(0, 0, 10000, 0, 10000, 10000, 0, 10000)), 200000000)
	want(t, "Area2 with a point that is not valid", plane.Area2(list(0, 0, 4, 0, 4, -4)), 0)
	want(t, "Area2 with a point that is too far", plane.Area2(list(0, 0, 10001, 0, 4, 4)), 0)
	many := slices.Repeat(square, 100)
	want(t, "Area2 of 400 points", plane.Area2(many), 3200)
	want(t, "Area2 of 401 points", plane.Area2(append(many, pt(0, 0))), 0)
}

// A8
func TestNormal(t *testing.T) {
	for _, x := range []struct{ l, normal []api.Point }{
		{list(4, 4, 4, 2, 4, 0, 0, 0), list(0, 0, 4, 0, 4, 4)},
		{square, square},
		{list(4, 4, 0, 4, 0, 0, 4, 0), square},
		{list(0, 4, 4, 4, 4, 0, 0, 0), square},
		{list(0, 2, 0, 1, 0, 0, 2, 0, 4, 0, 4, 4, 3, 4, 1, 4, 0, 4), square},
		{list(2, 0, 4, 2, 2, 4, 0, 2), list(0, 2, 2, 0, 4, 2, 2, 4)},
		{list(0, 6, 3, 2, 6, 6, 6, 0, 0, 0), bent},
		{list(5, 5, 5, 9, 1, 5), list(1, 5, 5, 5, 5, 9)},
		{list(1, 3, 3, 0, 1, 1), list(1, 1, 3, 0, 1, 3)},
	} {
		got, e := plane.Normal(x.l)
		if e != api.OK || !slices.Equal(got, x.normal) {
			t.Errorf("Normal(%v): %v, error %d, want %v", x.l, got, e, x.normal)
		}
	}
	for _, x := range notSimple() {
		if got, e := plane.Normal(x.l); e != x.e || len(got) != 0 {
			t.Errorf("Normal(%v): %v, error %d, want %d", x.l, got, e, x.e)
		}
	}
}

// P1.9
func TestNormalOfItself(t *testing.T) {
	d := &dice{9}
	for range 150 {
		l := d.polygon(6, 3+d.roll(7))
		n, e := plane.Normal(l)
		if e != api.OK || area(n) <= 0 || area(n) != max(area(l), -area(l)) {
			t.Fatalf("Normal(%v): %v, error %d", l, n, e)
		}
		least := slices.MinFunc(n, func(p, q api.Point) int { return 2*sign(p.X-q.X) + sign(p.Y-q.Y) })
		want(t, "first corner of Normal", n[0], least)
		for i, p := range n {
			if plane.Turn(n[(i+len(n)-1)%len(n)], p, n[(i+1)%len(n)]) == 0 {
				t.Fatalf("Normal(%v): %v is straight", l, p)
			}
		}
		again, _ := plane.Normal(n)
		want(t, "Normal of itself", again, n)
		for i := range l {
			turned := append(slices.Clone(l[i:]), l[:i]...)
			a, _ := plane.Normal(turned)
			b, _ := plane.Normal(reversed(turned))
			want(t, "Normal from another corner", a, n)
			want(t, "Normal in the other direction", b, n)
		}
		for _, p := range gridPoints(6) {
			if plane.Where(n, p) != plane.Where(l, p) {
				t.Fatalf("Normal(%v) has other points: %v", l, p)
			}
		}
	}
}

func sign(n int) int {
	return min(1, max(-1, n))
}

// A8
func TestConvex(t *testing.T) {
	for _, x := range []struct {
		l      []api.Point
		convex bool
	}{
		{square, true},
		{list(0, 4, 4, 4, 4, 0, 0, 0), true},
		{list(0, 0, 2, 0, 4, 0, 4, 4, 0, 4, 0, 1), true},
		{list(0, 0, 4, 0, 0, 4), true},
		{list(2, 0, 4, 2, 2, 4, 0, 2), true},
		{list(0, 0, 4, 0, 1, 1, 0, 4), false},
		{list(0, 4, 1, 1, 4, 0, 0, 0), false},
		{bent, false},
		{comb(12), false},
	} {
		if c := plane.Convex(x.l); c != x.convex {
			t.Errorf("Convex(%v): %v", x.l, c)
		}
	}
	for _, x := range notSimple() {
		if plane.Convex(x.l) {
			t.Errorf("Convex(%v), which is not simple", x.l)
		}
	}
}

// A9
func TestWhere(t *testing.T) {
	for _, x := range []struct {
		l     []api.Point
		p     api.Point
		where uint8
	}{
		{square, pt(2, 2), api.WhereIn},
		{square, pt(4, 1), api.WhereOn},
		{square, pt(0, 0), api.WhereOn},
		{square, pt(5, 5), api.WhereOut},
		{square, pt(5, 4), api.WhereOut},
		{square, pt(5, 0), api.WhereOut},
		{bent, pt(3, 1), api.WhereIn},
		{bent, pt(3, 2), api.WhereOn},
		{bent, pt(3, 3), api.WhereOut},
		{bent, pt(6, 3), api.WhereOn},
		{bent, pt(1, 2), api.WhereIn},
		{bent, pt(5, 2), api.WhereIn},
		{bent, pt(1, 4), api.WhereIn},
		{bent, pt(3, 6), api.WhereOut},
		{bent, pt(7, 0), api.WhereOut},
		{list(0, 6, 3, 2, 6, 6, 6, 0, 0, 0), pt(1, 2), api.WhereIn},
		{list(2, 0, 4, 2, 2, 4, 0, 2), pt(1, 2), api.WhereIn},
		{list(2, 0, 4, 2, 2, 4, 0, 2), pt(0, 4), api.WhereOut},
		{list(2, 0, 4, 2, 2, 4, 0, 2), pt(0, 0), api.WhereOut},
		{list(0, 0, 10000, 0, 10000, 10000, 0, 10000), pt(9999, 1), api.WhereIn},
		{list(0, 0, 10000, 9999, 9999, 9998), pt(5000, 4999), api.WhereOut},
		{square, pt(-1, 2), api.WhereOut},
		{square, pt(2, 10001), api.WhereOut},
		{square, pt(huge, tiny), api.WhereOut},
		{append(comb(200), pt(0, 5)), pt(1, 1), api.WhereOut},
	} {
		if w := plane.Where(x.l, x.p); w != x.where {
			t.Errorf("Where(%v, %v): %d, want %d", x.l, x.p, w, x.where)
		}
	}
	for _, x := range notSimple() {
		for _, p := range gridPoints(4) {
			if w := plane.Where(x.l, p); w != api.WhereOut {
				t.Errorf("Where(%v, %v), which is not simple: %d", x.l, p, w)
			}
		}
	}
}

// A9 and P1.5
func TestWhereOnGrid(t *testing.T) {
	d := &dice{5}
	for range 200 {
		l := d.polygon(6, 3+d.roll(8))
		for _, p := range gridPoints(7) {
			if w := plane.Where(l, p); w != place(l, p) {
				t.Fatalf("Where(%v, %v): %d, want %d", l, p, w, place(l, p))
			}
		}
		for _, s := range sides(l) {
			for _, p := range gridPoints(6) {
				if plane.On(p, s) && plane.Where(l, p) != api.WhereOn {
					t.Fatalf("Where(%v, %v): %d, on the border", l, p, plane.Where(l, p))
				}
			}
		}
	}
}

// P1.5
func TestWhereConvex(t *testing.T) {
	d, found := &dice{15}, 0
	for range 200 {
		var l []api.Point
		for range 3 + d.roll(6) {
			l = append(l, d.point(7))
		}
		h, _ := plane.Hull(l)
		if len(h) < 3 {
			continue
		}
		found++
		want(t, "Convex of a hull", plane.Convex(h), true)
		for _, p := range gridPoints(7) {
			least := 1
			for _, s := range sides(h) {
				least = min(least, plane.Turn(s.A, s.B, p))
			}
			if plane.Where(h, p) != uint8(least+1) {
				t.Fatalf("Where(%v, %v): %d, want %d", h, p, plane.Where(h, p), least+1)
			}
		}
	}
	if found < 100 {
		t.Errorf("only %d hulls", found)
	}
}

// A9
func TestWithin(t *testing.T) {
	notch := list(0, 0, 9, 0, 9, 9, 6, 9, 6, 5, 3, 5, 3, 9, 0, 9)
	teeth := list(0, 0, 8, 0, 8, 4, 6, 2, 4, 4, 2, 2, 0, 4)
	for _, x := range []struct {
		l      []api.Point
		s      api.Seg
		within bool
	}{
		{bent, sg(1, 1, 5, 1), true},
		{bent, sg(0, 6, 6, 6), false},
		{bent, sg(1, 4, 5, 4), false},
		{bent, sg(0, 6, 3, 2), true},
		{bent, sg(0, 2, 6, 2), true},
		{bent, sg(0, 0, 6, 0), true},
		{bent, sg(0, 0, 6, 6), false},
		{bent, sg(3, 0, 3, 2), true},
		{bent, sg(3, 1, 3, 3), false},
		{bent, sg(0, 0, 7, 0), false},
		{bent, sg(7, 0, 7, 7), false},
		{notch, sg(0, 5, 9, 5), true},
		{notch, sg(3, 5, 6, 5), true},
		{notch, sg(3, 9, 6, 9), false},
		{notch, sg(0, 9, 9, 9), false},
		{notch, sg(3, 0, 3, 9), true},
		{notch, sg(6, 9, 6, 1), true},
		{notch, sg(3, 5, 6, 9), false},
		{notch, sg(2, 6, 4, 4), true},
		{notch, sg(2, 4, 4, 6), false},
		{teeth, sg(0, 2, 8, 2), true},
		{teeth, sg(0, 3, 8, 3), false},
		{teeth, sg(2, 2, 6, 2), true},
		{teeth, sg(0, 4, 4, 4), false},
		{teeth, sg(3, 3, 5, 3), true},
		{teeth, sg(1, 3, 3, 3), false},
		{square, sg(0, 0, 4, 4), true},
		{square, sg(0, 4, 0, 3), true},
		{square, sg(0, 0, 0, 5), false},
		{square, sg(4, 4, 5, 5), false},
		{square, sg(1, 1, 2, 2), true},
		{square, sg(2, 2, 2, 2), false},
		{square, sg(0, 0, -1, 0), false},
		{list(0, 0, 10000, 0, 10000, 10000, 0, 10000), sg(0, 1, 10001, 1), false},
		{list(0, 0, 10000, 0, 10000, 10000, 0, 10000), sg(0, 1, 10000, 9998), true},
		{list(0, 0, 10000, 0, 10000, 10000, 0, 10000), sg(10000, 10000, 9999, 10000), true},
		{list(1, 1, 2, 1, 2, 2, 1, 2), sg(1, 1, 2, 2), true},
		{list(1, 1, 2, 1, 2, 2), sg(1, 1, 2, 2), true},
		{list(1, 1, 2, 1, 2, 2), sg(1, 1, 1, 2), false},
		{append(comb(200), pt(0, 5)), sg(0, 0, 1, 0), false},
	} {
		for _, s := range []api.Seg{x.s, back(x.s)} {
			if in := plane.Within(x.l, s); in != x.within {
				t.Errorf("Within(%v, %v): %v", x.l, s, in)
			}
			if in := plane.Within(reversed(x.l), s); in != x.within && len(x.l) < 200 {
				t.Errorf("Within(%v, %v): %v", reversed(x.l), s, in)
			}
		}
	}
	for _, x := range notSimple() {
		for _, s := range gridSegs(2) {
			if plane.Within(x.l, s) {
				t.Errorf("Within(%v, %v), which is not simple", x.l, s)
			}
		}
	}
}

// A9: on a grid of 4 a segment that leaves a polygon is out of it at one of 2000 places.
func TestWithinOnGrid(t *testing.T) {
	d, found := &dice{19}, 0
	for range 60 {
		l := d.polygon(4, 4+d.roll(6))
		large := make([]api.Point, len(l))
		for i, p := range l {
			large[i] = pt(2000*p.X, 2000*p.Y)
		}
		for range 12 {
			s := d.seg(4)
			within := true
			for i := 0; i <= 2000 && within; i++ {
				within = place(large, pt(s.A.X*(2000-i)+s.B.X*i, s.A.Y*(2000-i)+s.B.Y*i)) != api.WhereOut
			}
			if plane.Within(l, s) != within {
				t.Fatalf("Within(%v, %v): %v", l, s, !within)
			}
			if within {
				found++
			}
		}
	}
	if found < 50 {
		t.Errorf("only %d segments within", found)
	}
}

// A10
func TestHull(t *testing.T) {
	for _, x := range []struct{ l, hull []api.Point }{
		{list(0, 0, 2, 0, 4, 0, 2, 1), list(0, 0, 4, 0, 2, 1)},
		{list(2, 2, 1, 1, 3, 3), list(1, 1, 3, 3)},
		{list(5, 9, 5, 1, 5, 4, 5, 9), list(5, 1, 5, 9)},
		{list(9, 2, 1, 2), list(1, 2, 9, 2)},
		{list(7, 3, 7, 3, 7, 3), list(7, 3)},
		{list(7, 3), list(7, 3)},
		{nil, nil},
		{list(4, 4, 0, 4, 2, 4, 0, 2, 0, 0, 4, 0, 2, 2, 4, 2, 2, 0, 4, 4), square},
		{list(3, 0, 0, 3, 6, 3, 3, 6, 3, 3), list(0, 3, 3, 0, 6, 3, 3, 6)},
		{list(0, 1, 0, 0, 10000, 10000, 9999, 10000), list(0, 0, 10000, 10000, 9999, 10000, 0, 1)},
		{list(0, 0, 9999, 9998, 10000, 9999), list(0, 0, 9999, 9998, 10000, 9999)},
		{bent, list(0, 0, 6, 0, 6, 6, 0, 6)},
	} {
		h, e := plane.Hull(x.l)
		if e != api.OK || !slices.Equal(h, x.hull) {
			t.Errorf("Hull(%v): %v, error %d, want %v", x.l, h, e, x.hull)
		}
	}
	h, e := plane.Hull(slices.Repeat(square, 100))
	if e != api.OK || !slices.Equal(h, square) {
		t.Errorf("Hull of 400 points: %v, error %d", h, e)
	}
	for _, x := range []struct {
		l []api.Point
		e api.Errno
	}{
		{row(401), api.ErrLimit},
		{append(row(400), pt(-1, 0)), api.ErrLimit},
		{list(0, 0, 4, 0, 4, -1), api.ErrArg},
		{list(10001, 0), api.ErrArg},
		{list(0, 0, huge, tiny), api.ErrArg},
	} {
		if h, e := plane.Hull(x.l); e != x.e || len(h) != 0 {
			t.Errorf("Hull: %v, error %d, want %d", h, e, x.e)
		}
	}
}

// P1.4, and A10 by its definition: a least polygon has corners of the list alone.
func TestHullHasAll(t *testing.T) {
	d := &dice{10}
	for range 300 {
		var l []api.Point
		for range d.roll(12) {
			l = append(l, d.point(1+d.roll(8)))
		}
		h, e := plane.Hull(l)
		if e != api.OK {
			t.Fatalf("Hull(%v): error %d", l, e)
		}
		again, _ := plane.Hull(h)
		want(t, "Hull of its own corners", again, h)
		for _, p := range h {
			want(t, "a corner of the hull is of the list", slices.Contains(l, p), true)
		}
		if len(h) > 2 {
			normal, e := plane.Normal(h)
			want(t, "error of Normal of a hull", e, api.OK)
			want(t, "Normal of a hull", normal, h)
			want(t, "Convex of a hull", plane.Convex(h), true)
		}
		for _, p := range l {
			if !hullHas(h, p) {
				t.Fatalf("Hull(%v): %v has no %v", l, h, p)
			}
		}
	}
}

func hullHas(h []api.Point, p api.Point) bool {
	switch len(h) {
	case 0:
		return false
	case 1:
		return p == h[0]
	case 2:
		return onSide(p, api.Seg{A: h[0], B: h[1]})
	}
	return place(h, p) != api.WhereOut
}

// A7: a circle's area shows that large lists are added exactly.
func TestArea2OfCircle(t *testing.T) {
	var l []api.Point
	for i := range 200 {
		a := 2 * math.Pi * float64(i) / 200
		l = append(l, pt(5000+int(math.Round(5000*math.Cos(a))), 5000+int(math.Round(5000*math.Sin(a)))))
	}
	want(t, "Area2 of a circle", plane.Area2(l), area(l))
	want(t, "CheckPoly of a circle", plane.CheckPoly(l), api.OK)
	want(t, "Where of its middle", plane.Where(l, pt(5000, 5000)), api.WhereIn)
	want(t, "Where of a corner of the wall", plane.Where(l, pt(1000, 1000)), api.WhereOut)
}
