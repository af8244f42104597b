package plane_test

import (
	"slices"
	"testing"

	"giornata/api"
	"giornata/plane"
)

// A17
func TestMove(t *testing.T) {
	for _, x := range []struct {
		l      []api.Point
		dx, dy int
		want   []api.Point
		e      api.Errno
	}{
		{square, 3, 1, list(3, 1, 7, 1, 7, 5, 3, 5), api.OK},
		{square, 0, 0, square, api.OK},
		{list(3, 4, 5, 6, 5, 6), -3, -4, list(0, 0, 2, 2, 2, 2), api.OK},
		{list(0, 10000), 10000, -10000, list(10000, 0), api.OK},
		{nil, 20000, -20000, nil, api.OK},
		{nil, -20000, 20000, nil, api.OK},
		{square, -1, 0, nil, api.ErrArg},
		{square, 0, -1, nil, api.ErrArg},
		{square, 9997, 0, nil, api.ErrArg},
		{square, 0, 9997, nil, api.ErrArg},
		{square, 9996, 9996, list(9996, 9996, 10000, 9996, 10000, 10000, 9996, 10000), api.OK},
		{nil, 20001, 0, nil, api.ErrArg},
		{nil, 0, 20001, nil, api.ErrArg},
		{nil, -20001, 0, nil, api.ErrArg},
		{nil, 0, -20001, nil, api.ErrArg},
		{square, huge, 0, nil, api.ErrArg},
		{square, 0, tiny, nil, api.ErrArg},
		{list(-3, 0), 5, 0, nil, api.ErrArg},
		{list(0, 10003), 0, -5, nil, api.ErrArg},
		{list(-15000, 0), 20000, 0, nil, api.ErrArg},
		{row(401), 0, 0, nil, api.ErrLimit},
		{append(row(400), pt(-1, 0)), huge, 0, nil, api.ErrLimit},
	} {
		if got, e := plane.Move(x.l, x.dx, x.dy); e != x.e || !slices.Equal(got, x.want) {
			t.Errorf("Move(%v, %d, %d): %v, error %d, want %v, %d", x.l, x.dx, x.dy, got, e, x.want, x.e)
		}
	}
}

// A17
func TestMirror(t *testing.T) {
	for _, x := range []struct {
		l     []api.Point
		width int
		want  []api.Point
		e     api.Errno
	}{
		{square, 10, list(10, 0, 6, 0, 6, 4, 10, 4), api.OK},
		{square, 4, list(4, 0, 0, 0, 0, 4, 4, 4), api.OK},
		{list(0, 3), 0, list(0, 3), api.OK},
		{list(10000, 3), 20000, list(10000, 3), api.OK},
		{nil, 20000, nil, api.OK},
		{nil, -20000, nil, api.OK},
		{square, 3, nil, api.ErrArg},
		{square, 0, nil, api.ErrArg},
		{square, -4, nil, api.ErrArg},
		{square, 10001, nil, api.ErrArg},
		{nil, 20001, nil, api.ErrArg},
		{nil, -20001, nil, api.ErrArg},
		{square, huge, nil, api.ErrArg},
		{square, tiny, nil, api.ErrArg},
		{list(-3, 0), 5, nil, api.ErrArg},
		{list(10001, 0), 10002, nil, api.ErrArg},
		{list(0, -1), 5, nil, api.ErrArg},
		{row(401), 500, nil, api.ErrLimit},
		{append(row(400), pt(-1, 0)), huge, nil, api.ErrLimit},
	} {
		if got, e := plane.Mirror(x.l, x.width); e != x.e || !slices.Equal(got, x.want) {
			t.Errorf("Mirror(%v, %d): %v, error %d, want %v, %d", x.l, x.width, got, e, x.want, x.e)
		}
	}
}

// A17
func TestEnlarge(t *testing.T) {
	for _, x := range []struct {
		l    []api.Point
		k    int
		want []api.Point
		e    api.Errno
	}{
		{square, 3, list(0, 0, 12, 0, 12, 12, 0, 12), api.OK},
		{square, 1, square, api.OK},
		{square, 0, list(0, 0, 0, 0, 0, 0, 0, 0), api.OK},
		{square, 2500, list(0, 0, 10000, 0, 10000, 10000, 0, 10000), api.OK},
		{list(0, 0), -1, list(0, 0), api.OK},
		{list(0, 0), 20000, list(0, 0), api.OK},
		{list(0, 0), -20000, list(0, 0), api.OK},
		{nil, 20000, nil, api.OK},
		{square, 2501, nil, api.ErrArg},
		{square, -1, nil, api.ErrArg},
		{list(0, 0), 20001, nil, api.ErrArg},
		{list(0, 0), -20001, nil, api.ErrArg},
		{nil, 20001, nil, api.ErrArg},
		{nil, -20001, nil, api.ErrArg},
		{square, huge, nil, api.ErrArg},
		{square, tiny, nil, api.ErrArg},
		{list(-1, -1), -1, nil, api.ErrArg},
		{list(-1, 5), 0, nil, api.ErrArg},
		{list(5, 10001), 0, nil, api.ErrArg},
		{row(401), 1, nil, api.ErrLimit},
		{append(row(400), pt(-1, 0)), huge, nil, api.ErrLimit},
	} {
		if got, e := plane.Enlarge(x.l, x.k); e != x.e || !slices.Equal(got, x.want) {
			t.Errorf("Enlarge(%v, %d): %v, error %d, want %v, %d", x.l, x.k, got, e, x.want, x.e)
		}
	}
	got, e := plane.Enlarge(row(400), 25)
	if e != api.OK || len(got) != 400 || got[399] != pt(9975, 0) {
		t.Errorf("Enlarge of 400 points: %d, error %d", len(got), e)
	}
}

// P1.8
func TestChangesOfMeet(t *testing.T) {
	d := &dice{18}
	for range 3000 {
		s, u, dx, dy, width := d.seg(5), d.seg(5), d.roll(9000), d.roll(9000), 5+d.roll(9000)
		all := []api.Point{s.A, s.B, u.A, u.B}
		moved, e := plane.Move(all, dx, dy)
		mirrored, f := plane.Mirror(all, width)
		if e != api.OK || f != api.OK {
			t.Fatalf("Move and Mirror of %v: errors %d, %d", all, e, f)
		}
		for _, l := range [][]api.Point{moved, mirrored} {
			if k := plane.Meet(api.Seg{A: l[0], B: l[1]}, api.Seg{A: l[2], B: l[3]}); k != plane.Meet(s, u) {
				t.Fatalf("Meet(%v, %v): %d; changed to %v: %d", s, u, plane.Meet(s, u), l, k)
			}
		}
	}
}

// P1.8
func TestChangesOfPolygons(t *testing.T) {
	d := &dice{28}
	for range 60 {
		l, dx, dy, width, k := d.polygon(6, 3+d.roll(6)), d.roll(9000), d.roll(9000), 7+d.roll(9000), 1+d.roll(1400)
		points := gridPoints(7)
		all := append(slices.Clone(l), points...)
		moved, e := plane.Move(all, dx, dy)
		mirrored, f := plane.Mirror(all, width)
		enlarged, g := plane.Enlarge(all, k)
		if e != api.OK || f != api.OK || g != api.OK {
			t.Fatalf("changes of %v: errors %d, %d, %d", l, e, f, g)
		}
		n := len(l)
		want(t, "Area2, moved", plane.Area2(moved[:n]), plane.Area2(l))
		want(t, "Area2, mirrored", plane.Area2(mirrored[:n]), -plane.Area2(l))
		want(t, "Area2, enlarged", plane.Area2(enlarged[:n]), k*k*plane.Area2(l))
		for i, p := range points {
			w := plane.Where(l, p)
			if plane.Where(moved[:n], moved[n+i]) != w || plane.Where(mirrored[:n], mirrored[n+i]) != w || plane.Where(enlarged[:n], enlarged[n+i]) != w {
				t.Fatalf("Where(%v, %v) changes by %d, %d, by %d, or by %d", l, p, dx, dy, width, k)
			}
		}
	}
}
