package plane_test

import (
	"math/big"
	"slices"
	"testing"

	"giornata/api"
	"giornata/plane"
)

func strip(from, to int, segs ...int) api.Strip {
	return api.Strip{From: from, To: to, Segs: segs}
}

func sameStrips(a, b []api.Strip) bool {
	return slices.EqualFunc(a, b, func(x, y api.Strip) bool {
		return x.From == y.From && x.To == y.To && slices.Equal(x.Segs, y.Segs)
	})
}

// A15
func TestSweep(t *testing.T) {
	for _, x := range []struct {
		l      []api.Seg
		strips []api.Strip
	}{
		{nil, nil},
		{[]api.Seg{sg(0, 0, 4, 0), sg(1, 2, 3, 1)}, []api.Strip{strip(0, 1, 0), strip(1, 3, 0, 1), strip(3, 4, 0)}},
		{[]api.Seg{sg(3, 1, 1, 2), sg(4, 0, 0, 0)}, []api.Strip{strip(0, 1, 1), strip(1, 3, 1, 0), strip(3, 4, 1)}},
		{[]api.Seg{sg(0, 0, 2, 0), sg(5, 1, 7, 1)}, []api.Strip{strip(0, 2, 0), strip(2, 5), strip(5, 7, 1)}},
		{[]api.Seg{sg(3, 0, 3, 5)}, nil},
		{[]api.Seg{sg(3, 0, 3, 5), sg(3, 7, 3, 5)}, nil},
		{[]api.Seg{sg(3, 0, 3, 5), sg(8, 7, 8, 5)}, []api.Strip{strip(3, 8)}},
		{[]api.Seg{sg(0, 1, 9, 1), sg(3, 5, 3, 1)}, []api.Strip{strip(0, 3, 0), strip(3, 9, 0)}},
		{[]api.Seg{sg(0, 0, 3, 3), sg(0, 0, 3, 1), sg(3, 4, 0, 2000), sg(3, 1, 5, 0)},
			[]api.Strip{strip(0, 3, 1, 0, 2), strip(3, 5, 3)}},
		{[]api.Seg{sg(0, 5, 1, 5), sg(0, 4, 1, 4), sg(0, 3, 1, 3)}, []api.Strip{strip(0, 1, 2, 1, 0)}},
		{[]api.Seg{sg(0, 0, 9, 9), sg(4, 4, 9, 8), sg(4, 4, 9, 10)}, []api.Strip{strip(0, 4, 0), strip(4, 9, 1, 0, 2)}},
	} {
		got, e := plane.Sweep(x.l)
		if e != api.OK || !sameStrips(got, x.strips) {
			t.Errorf("Sweep(%v): %v, error %d, want %v", x.l, got, e, x.strips)
		}
	}
	got, e := plane.Sweep(ladder(400))
	if e != api.OK || len(got) != 1 || len(got[0].Segs) != 400 || got[0].Segs[399] != 399 {
		t.Errorf("Sweep of 400: %v, error %d", got, e)
	}
	for _, x := range append(notSegs(), crossed()...) {
		if got, e := plane.Sweep(x.l); e != x.e || len(got) != 0 {
			t.Errorf("Sweep: %v, error %d, want %d", got, e, x.e)
		}
	}
}

// A15 and P1.6
func TestSweepOnGrid(t *testing.T) {
	d := &dice{16}
	for range 300 {
		l := d.apart(4+d.roll(8), 1+d.roll(10))
		got, e := plane.Sweep(l)
		if e != api.OK || !sameStrips(got, strips(l)) {
			t.Fatalf("Sweep(%v): %v, error %d, want %v", l, got, e, strips(l))
		}
		if !plane.CheckSweep(l, got) {
			t.Fatalf("CheckSweep(%v, %v)", l, got)
		}
	}
	for range 20 {
		l := d.apart(api.MaxCoord, 20)
		got, e := plane.Sweep(l)
		if e != api.OK || !sameStrips(got, strips(l)) || !plane.CheckSweep(l, got) {
			t.Fatalf("Sweep(%v): %v, error %d", l, got, e)
		}
	}
}

// A16: what is wrong with the strips themselves.
func TestCheckSweepStrips(t *testing.T) {
	l := []api.Seg{sg(0, 0, 4, 0), sg(1, 2, 3, 1), sg(3, 5, 3, 9)}
	right := []api.Strip{strip(0, 1, 0), strip(1, 3, 0, 1), strip(3, 4, 0)}
	want(t, "CheckSweep", plane.CheckSweep(l, right), true)
	want(t, "CheckSweep of nothing", plane.CheckSweep(nil, nil), true)
	want(t, "CheckSweep of nothing with a strip", plane.CheckSweep(nil, right[:1]), false)
	want(t, "CheckSweep of nothing with an empty strip", plane.CheckSweep(nil, []api.Strip{{}}), false)
	want(t, "CheckSweep without strips", plane.CheckSweep(l, nil), false)
	want(t, "CheckSweep without the last strip", plane.CheckSweep(l, right[:2]), false)
	want(t, "CheckSweep without the first strip", plane.CheckSweep(l, right[1:]), false)
	want(t, "CheckSweep with a strip more", plane.CheckSweep(l, append(copied(right), strip(4, 5))), false)
	want(t, "CheckSweep with a strip twice", plane.CheckSweep(l, append(copied(right), right[2])), false)
	want(t, "CheckSweep with strips in another order", plane.CheckSweep(l, []api.Strip{right[1], right[0], right[2]}), false)
	for _, change := range []func(c []api.Strip){
		func(c []api.Strip) { c[0].From = -1 },
		func(c []api.Strip) { c[0].To = 2 },
		func(c []api.Strip) { c[1].From = 0 },
		func(c []api.Strip) { c[2].To = 5 },
		func(c []api.Strip) { c[2].To = huge },
		func(c []api.Strip) { c[0].Segs = nil },
		func(c []api.Strip) { c[0].Segs = []int{1} },
		func(c []api.Strip) { c[0].Segs = []int{0, 0} },
		func(c []api.Strip) { c[0].Segs = []int{0, 1} },
		func(c []api.Strip) { c[0].Segs = []int{-1} },
		func(c []api.Strip) { c[0].Segs = []int{3} },
		func(c []api.Strip) { c[0].Segs = []int{tiny} },
		func(c []api.Strip) { c[1].Segs = []int{1, 0} },
		func(c []api.Strip) { c[1].Segs = []int{0, 0} },
		func(c []api.Strip) { c[1].Segs = []int{1, 1} },
		func(c []api.Strip) { c[1].Segs = []int{0} },
		func(c []api.Strip) { c[1].Segs = []int{0, 1, 1} },
		func(c []api.Strip) { c[1].Segs = []int{0, 1, 2} },
		func(c []api.Strip) { c[1].Segs = []int{0, huge} },
		func(c []api.Strip) { c[2].Segs = []int{0, 2} },
	} {
		c := copied(right)
		change(c)
		if plane.CheckSweep(l, c) {
			t.Errorf("CheckSweep(%v, %v)", l, c)
		}
	}
	want(t, "CheckSweep of 400", plane.CheckSweep(ladder(400), strips(ladder(400))), true)
	for _, x := range notSegs() {
		if plane.CheckSweep(x.l, nil) || x.e == api.ErrLimit && plane.CheckSweep(x.l, strips(ladder(len(x.l)))) {
			t.Errorf("CheckSweep of segments with error %d", x.e)
		}
	}
}

// A16: what is wrong with the segments, or not.
func TestCheckSweepSegments(t *testing.T) {
	for _, x := range []struct {
		name string
		l    []api.Seg
		ok   bool
	}{
		{"crossing in a strip", []api.Seg{sg(0, 0, 4, 4), sg(0, 4, 4, 0)}, false},
		{"crossing between two strips", []api.Seg{sg(0, 0, 4, 4), sg(0, 4, 4, 0), sg(2, 8, 5, 8)}, false},
		{"crossing between two strips, at an end", []api.Seg{sg(0, 0, 4, 4), sg(0, 4, 4, 0), sg(2, 2, 5, 2)}, false},
		{"one that goes on where others end", []api.Seg{sg(0, 0, 4, 4), sg(0, 4, 2, 2), sg(2, 2, 4, 0)}, true},
		{"one that goes on where others begin", []api.Seg{sg(0, 0, 4, 4), sg(2, 2, 4, 0), sg(2, 2, 4, 9)}, true},
		{"four that end at a point", []api.Seg{sg(0, 0, 2, 2), sg(0, 4, 2, 2), sg(2, 2, 4, 0), sg(2, 2, 4, 4)}, true},
		{"equal ones", []api.Seg{sg(0, 0, 4, 2), sg(0, 0, 4, 2)}, false},
		{"a longer one over a shorter one", []api.Seg{sg(0, 0, 4, 2), sg(2, 1, 8, 4)}, false},
		{"one behind another one on a line", []api.Seg{sg(0, 0, 4, 2), sg(4, 2, 8, 4)}, true},
		{"two from one end", []api.Seg{sg(0, 0, 4, 2), sg(0, 0, 4, 3)}, true},
		{"two to one end", []api.Seg{sg(0, 1, 4, 3), sg(0, 0, 4, 3)}, true},
		{"upright ones that overlap", []api.Seg{sg(3, 0, 3, 5), sg(3, 4, 3, 9)}, false},
		{"upright ones, one in another one", []api.Seg{sg(3, 0, 3, 9), sg(3, 6, 3, 4)}, false},
		{"upright ones, one in another one, with one between", []api.Seg{sg(3, 0, 3, 9), sg(3, 1, 3, 2), sg(3, 6, 3, 5)}, false},
		{"equal upright ones", []api.Seg{sg(3, 0, 3, 9), sg(3, 9, 3, 0)}, false},
		{"upright ones that meet at an end", []api.Seg{sg(3, 0, 3, 5), sg(3, 9, 3, 5)}, true},
		{"upright ones at different places", []api.Seg{sg(3, 0, 3, 5), sg(4, 1, 4, 6)}, true},
		{"an upright one that is crossed", []api.Seg{sg(0, 0, 4, 4), sg(2, 0, 2, 4)}, false},
		{"an upright one, downward, that is crossed", []api.Seg{sg(4, 4, 0, 0), sg(2, 4, 2, 0)}, false},
		{"an upright one that is crossed by the second of three", []api.Seg{sg(0, 0, 9, 0), sg(0, 4, 9, 4), sg(0, 8, 9, 8), sg(5, 2, 5, 6)}, false},
		{"an upright one that is crossed between integers", []api.Seg{sg(0, 0, 3, 1), sg(1, 0, 1, 1)}, false},
		{"an upright one that is crossed above one that ends on it", []api.Seg{sg(0, 3, 5, 3), sg(0, 4, 9, 4), sg(5, 2, 5, 6)}, false},
		{"an upright one whose lower end touches", []api.Seg{sg(0, 0, 4, 4), sg(2, 2, 2, 4)}, true},
		{"an upright one whose upper end touches", []api.Seg{sg(0, 0, 4, 4), sg(2, 0, 2, 2)}, true},
		{"an upright one between others", []api.Seg{sg(0, 0, 9, 0), sg(0, 8, 9, 8), sg(5, 2, 5, 6)}, true},
		{"an upright one on which others end", []api.Seg{sg(5, 0, 5, 9), sg(0, 3, 5, 3), sg(5, 4, 9, 4), sg(5, 3, 9, 0)}, true},
		{"an upright one on the left", []api.Seg{sg(0, 0, 0, 9), sg(0, 3, 5, 3)}, true},
		{"an upright one on the right", []api.Seg{sg(5, 0, 5, 9), sg(0, 3, 5, 3)}, true},
		{"an upright one that ends where two meet", []api.Seg{sg(0, 3, 5, 3), sg(5, 3, 9, 3), sg(5, 0, 5, 3)}, true},
	} {
		if ok := plane.CheckSweep(x.l, strips(x.l)); ok != x.ok || ok != accepts(x.l, strips(x.l)) {
			t.Errorf("CheckSweep, %s: %v", x.name, ok)
		}
	}
}

// A16 by its definition, and P1.6.
func TestCheckSweepOnGrid(t *testing.T) {
	d, accepted, refused := &dice{17}, 0, 0
	for range 20000 {
		var l []api.Seg
		for range 1 + d.roll(4) {
			l = append(l, d.seg(2+d.roll(3)))
		}
		c := copied(strips(l))
		if len(c) > 0 && d.roll(2) == 0 {
			if segs := c[d.roll(len(c))].Segs; len(segs) > 1 {
				i, j := d.roll(len(segs)), d.roll(len(segs))
				segs[i], segs[j] = segs[j], segs[i]
			}
		}
		ok := plane.CheckSweep(l, c)
		if ok != accepts(l, c) {
			t.Fatalf("CheckSweep(%v, %v): %v", l, c, ok)
		}
		if !ok {
			refused++
			continue
		}
		accepted++
		if i, j, found, e := plane.Crossing(l); found || e != api.OK {
			t.Fatalf("CheckSweep accepts %v, but %d and %d cross (error %d)", l, i, j, e)
		}
	}
	if accepted < 1000 || refused < 1000 {
		t.Errorf("%d accepted, %d refused", accepted, refused)
	}
}

// accepts is what CheckSweep has to return for strips with the right From, To and sets of Segs.
func accepts(l []api.Seg, c []api.Strip) bool {
	for _, x := range c {
		for i := 1; i < len(x.Segs); i++ {
			from := yAt(l[x.Segs[i-1]], rat(x.From)).Cmp(yAt(l[x.Segs[i]], rat(x.From)))
			to := yAt(l[x.Segs[i-1]], rat(x.To)).Cmp(yAt(l[x.Segs[i]], rat(x.To)))
			if from > 0 || to > 0 || from == 0 && to == 0 {
				return false
			}
		}
		if meetOnTheirWay(l, x.Segs, x.From) || meetOnTheirWay(l, x.Segs, x.To) {
			return false
		}
	}
	for i, s := range l {
		for j, u := range l {
			if s.A.X != s.B.X || i == j {
				continue
			}
			if u.A.X == u.B.X {
				if s.A.X == u.A.X && max(min(s.A.Y, s.B.Y), min(u.A.Y, u.B.Y)) < min(max(s.A.Y, s.B.Y), max(u.A.Y, u.B.Y)) {
					return false
				}
				continue
			}
			if min(u.A.X, u.B.X) < s.A.X && s.A.X < max(u.A.X, u.B.X) && between(yAt(u, rat(s.A.X)), s.A.Y, s.B.Y) {
				return false
			}
		}
	}
	return true
}

func meetOnTheirWay(l []api.Seg, segs []int, x int) bool {
	for i, a := range segs {
		for _, b := range segs[:i] {
			goes := l[a].A.X != x && l[a].B.X != x && l[b].A.X != x && l[b].B.X != x
			if goes && yAt(l[a], rat(x)).Cmp(yAt(l[b], rat(x))) == 0 {
				return true
			}
		}
	}
	return false
}

func between(y *big.Rat, a, b int) bool {
	return y.Cmp(rat(min(a, b))) > 0 && y.Cmp(rat(max(a, b))) < 0
}
