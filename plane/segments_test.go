package plane_test

import (
	"math/big"
	"testing"

	"giornata/api"
	"giornata/plane"
)

// A2
func TestOn(t *testing.T) {
	for _, x := range []struct {
		p  api.Point
		s  api.Seg
		on bool
	}{
		{pt(2, 1), sg(0, 0, 4, 2), true},
		{pt(0, 0), sg(0, 0, 4, 2), true},
		{pt(4, 2), sg(0, 0, 4, 2), true},
		{pt(2, 2), sg(0, 0, 4, 2), false},
		{pt(6, 3), sg(0, 0, 4, 2), false},
		{pt(0, 0), sg(2, 1, 4, 2), false},
		{pt(3, 5), sg(3, 1, 3, 9), true},
		{pt(3, 0), sg(3, 1, 3, 9), false},
		{pt(3, 10), sg(3, 1, 3, 9), false},
		{pt(4, 5), sg(3, 1, 3, 9), false},
		{pt(5, 7), sg(9, 7, 1, 7), true},
		{pt(0, 7), sg(9, 7, 1, 7), false},
		{pt(3, 5), sg(5, 3, 3, 5), true},
		{pt(4, 4), sg(5, 3, 3, 5), true},
		{pt(2, 6), sg(5, 3, 3, 5), false},
		{pt(9999, 9998), sg(0, 0, 10000, 9999), false},
		{pt(2, 2), sg(2, 2, 2, 2), false},
		{pt(-1, 0), sg(-2, 0, 4, 0), false},
		{pt(1, 0), sg(-2, 0, 4, 0), false},
		{pt(1, 0), sg(0, 0, 10001, 0), false},
		{pt(-1, 0), sg(0, 0, 4, 0), false},
		{pt(huge, huge), sg(tiny, tiny, huge, huge), false},
	} {
		if on := plane.On(x.p, x.s); on != x.on {
			t.Errorf("On(%v, %v): %v", x.p, x.s, on)
		}
		if on := plane.On(x.p, back(x.s)); on != x.on {
			t.Errorf("On(%v, %v): %v", x.p, back(x.s), on)
		}
	}
	for _, s := range gridSegs(3) {
		for _, p := range gridPoints(3) {
			if plane.On(p, s) != onSide(p, s) {
				t.Fatalf("On(%v, %v): %v", p, s, plane.On(p, s))
			}
		}
	}
}

// A3
func TestMeet(t *testing.T) {
	for _, x := range []struct {
		s, t api.Seg
		kind uint8
	}{
		{sg(0, 0, 4, 4), sg(0, 4, 4, 0), api.MeetCross},
		{sg(0, 0, 3, 1), sg(0, 1, 1, 0), api.MeetCross},
		{sg(2, 0, 2, 9), sg(0, 3, 7, 3), api.MeetCross},
		{sg(0, 0, 10000, 9999), sg(0, 1, 9999, 9998), api.MeetCross},
		{sg(0, 0, 4, 0), sg(2, 0, 2, 3), api.MeetTouch},
		{sg(0, 0, 4, 4), sg(3, 3, 9, 0), api.MeetTouch},
		{sg(0, 0, 4, 0), sg(4, 0, 6, 1), api.MeetEnd},
		{sg(0, 0, 4, 0), sg(4, 0, 6, 0), api.MeetEnd},
		{sg(3, 5, 3, 2), sg(3, 5, 3, 9), api.MeetEnd},
		{sg(0, 0, 4, 0), sg(0, 0, 0, 4), api.MeetEnd},
		{sg(0, 0, 4, 0), sg(2, 0, 6, 0), api.MeetOverlap},
		{sg(0, 0, 4, 0), sg(1, 0, 3, 0), api.MeetOverlap},
		{sg(0, 0, 4, 0), sg(0, 0, 3, 0), api.MeetOverlap},
		{sg(0, 0, 4, 2), sg(0, 0, 4, 2), api.MeetOverlap},
		{sg(0, 0, 4, 2), sg(4, 2, 0, 0), api.MeetOverlap},
		{sg(3, 0, 3, 5), sg(3, 4, 3, 9), api.MeetOverlap},
		{sg(0, 0, 4, 0), sg(5, 0, 6, 0), api.MeetNone},
		{sg(0, 0, 4, 0), sg(0, 1, 4, 1), api.MeetNone},
		{sg(0, 0, 4, 0), sg(5, 2, 5, -2), api.MeetNone},
		{sg(0, 0, 2, 0), sg(3, 1, 3, 0), api.MeetNone},
		{sg(0, 0, 9, 0), sg(3, 1, 3, 2), api.MeetNone},
		{sg(0, 0, 4, 4), sg(4, 4, 4, 4), api.MeetNone},
		{sg(2, 2, 2, 2), sg(2, 2, 2, 2), api.MeetNone},
		{sg(0, 1, 4, 1), sg(2, 0, 2, 10001), api.MeetNone},
		{sg(0, 1, 4, 1), sg(2, -1, 2, 5), api.MeetNone},
		{sg(tiny, 1, huge, 1), sg(2, 0, 2, 5), api.MeetNone},
	} {
		for _, s := range []api.Seg{x.s, back(x.s)} {
			for _, u := range []api.Seg{x.t, back(x.t)} {
				if plane.Meet(s, u) != x.kind || plane.Meet(u, s) != x.kind {
					t.Errorf("Meet(%v, %v): %d and %d, want %d", s, u, plane.Meet(s, u), plane.Meet(u, s), x.kind)
				}
			}
		}
	}
}

// A3 and P1.2
func TestMeetOnGrid(t *testing.T) {
	all := gridSegs(3)
	for _, s := range all {
		for _, u := range all {
			n, x, y := common(s, u)
			k := kind(s, u)
			if plane.Meet(s, u) != k {
				t.Fatalf("Meet(%v, %v): %d, want %d", s, u, plane.Meet(s, u), k)
			}
			cx, cy, ok := plane.Cross(s, u)
			if n != 1 {
				if ok || cx != (api.Frac{}) || cy != (api.Frac{}) {
					t.Fatalf("Cross(%v, %v): %v, %v, %v", s, u, cx, cy, ok)
				}
				continue
			}
			if !ok || cx != frac(x) || cy != frac(y) {
				t.Fatalf("Cross(%v, %v): %v, %v, %v; want %v, %v", s, u, cx, cy, ok, x, y)
			}
		}
	}
}

func frac(x *big.Rat) api.Frac {
	return api.Frac{Num: int(x.Num().Int64()), Den: int(x.Denom().Int64())}
}

// A3
func TestCross(t *testing.T) {
	for _, x := range []struct {
		s, t api.Seg
		x, y api.Frac
		ok   bool
	}{
		{sg(0, 0, 4, 4), sg(0, 4, 4, 0), api.Frac{Num: 2, Den: 1}, api.Frac{Num: 2, Den: 1}, true},
		{sg(0, 0, 3, 1), sg(0, 1, 1, 0), api.Frac{Num: 3, Den: 4}, api.Frac{Num: 1, Den: 4}, true},
		{sg(0, 0, 4, 0), sg(0, 0, 0, 4), api.Frac{Num: 0, Den: 1}, api.Frac{Num: 0, Den: 1}, true},
		{sg(0, 0, 4, 0), sg(4, 0, 9, 0), api.Frac{Num: 4, Den: 1}, api.Frac{Num: 0, Den: 1}, true},
		{sg(3, 0, 3, 5), sg(7, 2, 3, 2), api.Frac{Num: 3, Den: 1}, api.Frac{Num: 2, Den: 1}, true},
		{sg(0, 5, 5, 5), sg(1, 0, 2, 10), api.Frac{Num: 3, Den: 2}, api.Frac{Num: 5, Den: 1}, true},
		{sg(0, 0, 10000, 9999), sg(0, 1, 9999, 9998), api.Frac{Num: 99990000, Den: 10001}, api.Frac{Num: 99980001, Den: 10001}, true},
		{sg(0, 0, 4, 0), sg(2, 0, 6, 0), api.Frac{}, api.Frac{}, false},
		{sg(0, 0, 4, 0), sg(0, 1, 4, 1), api.Frac{}, api.Frac{}, false},
		{sg(0, 0, 4, 0), sg(3, -1, 3, 1), api.Frac{}, api.Frac{}, false},
		{sg(0, 0, 4, 0), sg(3, 0, 3, 0), api.Frac{}, api.Frac{}, false},
		{sg(0, 0, 10001, 0), sg(3, 0, 3, 1), api.Frac{}, api.Frac{}, false},
	} {
		a, b, ok := plane.Cross(x.s, x.t)
		if a != x.x || b != x.y || ok != x.ok {
			t.Errorf("Cross(%v, %v): %v, %v, %v; want %v, %v, %v", x.s, x.t, a, b, ok, x.x, x.y, x.ok)
		}
	}
}

// A3: products of coordinates over the whole wall.
func TestCrossOverAll(t *testing.T) {
	d := &dice{3}
	found := 0
	for range 3000 {
		s, u := d.seg(api.MaxCoord), d.seg(api.MaxCoord)
		n, x, y := common(s, u)
		a, b, ok := plane.Cross(s, u)
		if plane.Meet(s, u) != kind(s, u) || ok != (n == 1) || ok && (a != frac(x) || b != frac(y)) {
			t.Fatalf("Cross(%v, %v): %v, %v, %v", s, u, a, b, ok)
		}
		if ok {
			found++
		}
	}
	if found < 100 {
		t.Errorf("only %d segments crossed", found)
	}
}

// P1.2
func TestMeetInside(t *testing.T) {
	all := gridSegs(3)
	for i, s := range all {
		for _, u := range all[:i] {
			k := plane.Meet(s, u)
			if plane.Meet(u, s) != k || plane.Meet(back(s), u) != k || plane.Meet(s, back(u)) != k {
				t.Fatalf("Meet(%v, %v) depends on order", s, u)
			}
			n, x, y := common(s, u)
			both := n == 2 || n == 1 && !isEnd(s, x, y) && !isEnd(u, x, y)
			if both == (k == api.MeetNone || k == api.MeetEnd || k == api.MeetTouch) {
				t.Fatalf("Meet(%v, %v): %d; a point inside both: %v", s, u, k, both)
			}
		}
	}
}

// P1.2: the point of Cross is on both, shown on segments that are enlarged until it is whole.
func TestCrossIsOnBoth(t *testing.T) {
	for _, s := range gridSegs(3) {
		for _, u := range gridSegs(3) {
			x, y, ok := plane.Cross(s, u)
			if !ok {
				continue
			}
			if k := x.Den * y.Den; !plane.On(pt(x.Num*y.Den, y.Num*x.Den), larger(s, k)) || !plane.On(pt(x.Num*y.Den, y.Num*x.Den), larger(u, k)) {
				t.Fatalf("Cross(%v, %v): %v, %v is not on both", s, u, x, y)
			}
		}
	}
}

func larger(s api.Seg, k int) api.Seg {
	return sg(s.A.X*k, s.A.Y*k, s.B.X*k, s.B.Y*k)
}

// A4
func TestAbove(t *testing.T) {
	for _, x := range []struct {
		s, t  api.Seg
		order int
		ok    bool
	}{
		{sg(1, 2, 3, 1), sg(0, 0, 4, 0), 1, true},
		{sg(0, 0, 4, 0), sg(1, 2, 3, 1), -1, true},
		{sg(0, 0, 4, 0), sg(0, 0, 4, 1), -1, true},
		{sg(0, 2, 4, 1), sg(0, 0, 4, 1), 1, true},
		{sg(2, 0, 5, 3), sg(0, 0, 4, 0), 1, true},
		{sg(2, 0, 5, 0), sg(0, 2, 4, 0), -1, true},
		{sg(0, 0, 3, 0), sg(2, 5, 9, 9), -1, true},
		{sg(0, 9, 8, 0), sg(7, 9, 9, 9), -1, true},
		{sg(0, 0, 2, 0), sg(2, 1, 4, 1), 0, false},
		{sg(0, 0, 2, 0), sg(2, 0, 4, 1), 0, false},
		{sg(0, 0, 2, 0), sg(3, 1, 4, 1), 0, false},
		{sg(0, 0, 4, 4), sg(0, 4, 4, 0), 0, false},
		{sg(0, 0, 4, 0), sg(2, 0, 6, 0), 0, false},
		{sg(0, 0, 4, 0), sg(0, 0, 4, 0), 0, false},
		{sg(2, 1, 2, 4), sg(0, 0, 4, 0), 0, false},
		{sg(0, 0, 4, 0), sg(2, 1, 2, 4), 0, false},
		{sg(2, 1, 2, 4), sg(2, 5, 2, 9), 0, false},
		{sg(0, -1, 4, -1), sg(0, 0, 4, 0), 0, false},
		{sg(0, 10001, 4, 10001), sg(0, 0, 4, 0), 0, false},
		{sg(0, 0, 4, 0), sg(-1, 1, 4, 1), 0, false},
		{sg(3, 3, 3, 3), sg(0, 0, 4, 0), 0, false},
	} {
		for _, s := range []api.Seg{x.s, back(x.s)} {
			for _, u := range []api.Seg{x.t, back(x.t)} {
				if n, ok := plane.Above(s, u); n != x.order || ok != x.ok {
					t.Errorf("Above(%v, %v): %d, %v; want %d, %v", s, u, n, ok, x.order, x.ok)
				}
			}
		}
	}
	for _, s := range gridSegs(3) {
		for _, u := range gridSegs(3) {
			n, ok := plane.Above(s, u)
			if wn, wok := above(s, u); n != wn || ok != wok {
				t.Fatalf("Above(%v, %v): %d, %v; want %d, %v", s, u, n, ok, wn, wok)
			}
		}
	}
}

// above is what Above has to return for valid segments: it looks at both ends of what they share.
func above(s, u api.Seg) (int, bool) {
	from, to := max(min(s.A.X, s.B.X), min(u.A.X, u.B.X)), min(max(s.A.X, s.B.X), max(u.A.X, u.B.X))
	k := kind(s, u)
	if s.A.X == s.B.X || u.A.X == u.B.X || from >= to || k == api.MeetCross || k == api.MeetOverlap {
		return 0, false
	}
	left, right := yAt(s, rat(from)).Cmp(yAt(u, rat(from))), yAt(s, rat(to)).Cmp(yAt(u, rat(to)))
	if left+right > 0 {
		return 1, true
	}
	return -1, true
}
