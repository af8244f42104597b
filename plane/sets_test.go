package plane_test

import (
	"slices"
	"testing"

	"giornata/api"
	"giornata/plane"
)

// notSegs is lists that A13 to A16 do not take, each with its error.
func notSegs() []struct {
	l []api.Seg
	e api.Errno
} {
	return []struct {
		l []api.Seg
		e api.Errno
	}{
		{ladder(401), api.ErrLimit},
		{append(ladder(400), sg(0, 0, 0, 0)), api.ErrLimit},
		{make([]api.Seg, 401), api.ErrLimit},
		{make([]api.Seg, 400), api.ErrArg},
		{[]api.Seg{sg(3, 3, 3, 3)}, api.ErrArg},
		{[]api.Seg{sg(0, 0, 4, 0), sg(-1, 3, 3, 3)}, api.ErrArg},
		{[]api.Seg{sg(0, 0, 4, 0), sg(1, 3, 3, 10001)}, api.ErrArg},
		{[]api.Seg{sg(10001, 0, 4, 0)}, api.ErrArg},
		{[]api.Seg{sg(0, 0, 4, 4), sg(0, 4, 4, 0), sg(1, 1, 1, 1)}, api.ErrArg},
		{[]api.Seg{sg(tiny, tiny, huge, huge)}, api.ErrArg},
	}
}

// A13
func TestCrossing(t *testing.T) {
	for _, x := range []struct {
		l     []api.Seg
		i, j  int
		found bool
	}{
		{nil, 0, 0, false},
		{[]api.Seg{sg(0, 0, 4, 0)}, 0, 0, false},
		{[]api.Seg{sg(0, 0, 1, 0), sg(0, 0, 4, 4), sg(0, 4, 4, 0)}, 1, 2, true},
		{[]api.Seg{sg(0, 0, 4, 4), sg(0, 4, 4, 0)}, 0, 1, true},
		{[]api.Seg{sg(0, 0, 4, 0), sg(1, 0, 2, 0)}, 0, 1, true},
		{[]api.Seg{sg(0, 0, 4, 0), sg(4, 0, 0, 0)}, 0, 1, true},
		{[]api.Seg{sg(0, 0, 4, 0), sg(2, 0, 2, 4), sg(4, 0, 6, 0), sg(6, 0, 6, 3), sg(9, 9, 8, 8)}, 0, 0, false},
		{[]api.Seg{sg(0, 0, 9, 0), sg(1, 5, 4, 5), sg(2, 4, 2, 6), sg(8, 0, 9, 0)}, 0, 3, true},
		{[]api.Seg{sg(8, 8, 9, 9), sg(0, 4, 8, 4), sg(3, 3, 3, 5), sg(1, 3, 1, 5)}, 1, 2, true},
		{[]api.Seg{sg(8, 8, 9, 9), sg(1, 3, 1, 5), sg(3, 3, 3, 5), sg(0, 4, 8, 4)}, 1, 3, true},
		{ladder(400), 0, 0, false},
		{append(ladder(399), sg(9, 398, 4, 398)), 398, 399, true},
	} {
		if i, j, found, e := plane.Crossing(x.l); i != x.i || j != x.j || found != x.found || e != api.OK {
			t.Errorf("Crossing(%v): %d, %d, %v, error %d", x.l, i, j, found, e)
		}
	}
	for _, x := range notSegs() {
		if i, j, found, e := plane.Crossing(x.l); i != 0 || j != 0 || found || e != x.e {
			t.Errorf("Crossing: %d, %d, %v, error %d, want %d", i, j, found, e, x.e)
		}
	}
}

// A13
func TestCrossingOnGrid(t *testing.T) {
	d := &dice{13}
	for range 2000 {
		var l []api.Seg
		for range d.roll(5) {
			l = append(l, d.seg(6))
		}
		wi, wj, wanted := crossing(l)
		if i, j, found, e := plane.Crossing(l); i != wi || j != wj || found != wanted || e != api.OK {
			t.Fatalf("Crossing(%v): %d, %d, %v, error %d", l, i, j, found, e)
		}
	}
}

func crossing(l []api.Seg) (int, int, bool) {
	for i, s := range l {
		for j := i + 1; j < len(l); j++ {
			if k := kind(s, l[j]); k == api.MeetCross || k == api.MeetOverlap {
				return i, j, true
			}
		}
	}
	return 0, 0, false
}

// A14
func TestSplit(t *testing.T) {
	for _, x := range []struct{ l, split []api.Seg }{
		{nil, nil},
		{[]api.Seg{sg(4, 2, 0, 0)}, []api.Seg{sg(0, 0, 4, 2)}},
		{[]api.Seg{sg(0, 0, 4, 0), sg(2, 0, 2, 3)}, []api.Seg{sg(0, 0, 2, 0), sg(2, 0, 2, 3), sg(2, 0, 4, 0)}},
		{[]api.Seg{sg(2, 3, 2, 0), sg(4, 0, 0, 0)}, []api.Seg{sg(0, 0, 2, 0), sg(2, 0, 2, 3), sg(2, 0, 4, 0)}},
		{[]api.Seg{sg(9, 0, 0, 0), sg(3, 0, 2, 4), sg(6, 0, 6, 5), sg(3, 9, 3, 0)},
			[]api.Seg{sg(0, 0, 3, 0), sg(2, 4, 3, 0), sg(3, 0, 3, 9), sg(3, 0, 6, 0), sg(6, 0, 6, 5), sg(6, 0, 9, 0)}},
		{[]api.Seg{sg(5, 9, 5, 0), sg(5, 4, 9, 4), sg(0, 7, 5, 7)},
			[]api.Seg{sg(0, 7, 5, 7), sg(5, 0, 5, 4), sg(5, 4, 5, 7), sg(5, 4, 9, 4), sg(5, 7, 5, 9)}},
		{[]api.Seg{sg(0, 0, 4, 0), sg(4, 0, 6, 0), sg(1, 1, 2, 1)}, []api.Seg{sg(0, 0, 4, 0), sg(1, 1, 2, 1), sg(4, 0, 6, 0)}},
		{[]api.Seg{sg(0, 0, 4, 0), sg(0, 0, 4, 4), sg(0, 0, 3, 3000)}, []api.Seg{sg(0, 0, 3, 3000), sg(0, 0, 4, 0), sg(0, 0, 4, 4)}},
	} {
		if got, e := plane.Split(x.l); e != api.OK || !slices.Equal(got, x.split) {
			t.Errorf("Split(%v): %v, error %d, want %v", x.l, got, e, x.split)
		}
	}
	if got, e := plane.Split(ladder(400)); e != api.OK || len(got) != 400 {
		t.Errorf("Split of 400: %d, error %d", len(got), e)
	}
	for _, x := range append(notSegs(), crossed()...) {
		if got, e := plane.Split(x.l); e != x.e || len(got) != 0 {
			t.Errorf("Split: %v, error %d, want %d", got, e, x.e)
		}
	}
}

// crossed is lists of segments that Split and Sweep find to cross.
func crossed() []struct {
	l []api.Seg
	e api.Errno
} {
	return []struct {
		l []api.Seg
		e api.Errno
	}{
		{[]api.Seg{sg(0, 0, 4, 4), sg(0, 4, 4, 0)}, api.ErrCross},
		{[]api.Seg{sg(0, 0, 4, 0), sg(2, 0, 6, 0)}, api.ErrCross},
		{[]api.Seg{sg(0, 0, 4, 0), sg(0, 0, 4, 0)}, api.ErrCross},
		{[]api.Seg{sg(0, 0, 4, 0), sg(4, 0, 0, 0)}, api.ErrCross},
		{[]api.Seg{sg(9, 9, 8, 8), sg(2, 0, 2, 4), sg(2, 1, 2, 3)}, api.ErrCross},
		{append(ladder(399), sg(3, 0, 3, 500)), api.ErrCross},
	}
}

// P1.7, and A14 by its definition.
func TestSplitOnGrid(t *testing.T) {
	d := &dice{14}
	for range 300 {
		l := d.apart(6, 1+d.roll(8))
		got, e := plane.Split(l)
		if e != api.OK || total(got) != total(l) {
			t.Fatalf("Split(%v): %v, error %d", l, got, e)
		}
		for i, s := range got {
			if !(less(s.A, s.B) && (i == 0 || less(got[i-1].A, s.A) || got[i-1].A == s.A && less(got[i-1].B, s.B))) {
				t.Fatalf("Split(%v): %v is not in order", l, got)
			}
			if !slices.ContainsFunc(l, func(u api.Seg) bool { return onSide(s.A, u) && onSide(s.B, u) }) {
				t.Fatalf("Split(%v): %v is no part of them", l, s)
			}
			for _, u := range got[:i] {
				if k := plane.Meet(s, u); k != api.MeetNone && k != api.MeetEnd {
					t.Fatalf("Split(%v): %v and %v meet by %d", l, s, u, k)
				}
			}
		}
		for _, s := range l {
			for _, p := range []api.Point{s.A, s.B} {
				if !slices.ContainsFunc(got, func(u api.Seg) bool { return u.A == p || u.B == p }) {
					t.Fatalf("Split(%v): no end at %v", l, p)
				}
			}
		}
		for _, s := range got {
			for _, p := range []api.Point{s.A, s.B} {
				if !slices.ContainsFunc(l, func(u api.Seg) bool { return u.A == p || u.B == p }) {
					t.Fatalf("Split(%v): a cut at %v", l, p)
				}
			}
		}
	}
}

func less(p, q api.Point) bool {
	return p.X < q.X || p.X == q.X && p.Y < q.Y
}
