package plane_test

import (
	"testing"

	"giornata/api"
	"giornata/plane"
)

// A1
func TestCheckPoint(t *testing.T) {
	for p, e := range map[api.Point]api.Errno{
		pt(0, 0): api.OK, pt(10000, 10000): api.OK, pt(0, 10000): api.OK, pt(10000, 0): api.OK, pt(17, 4): api.OK,
		pt(-1, 0): api.ErrArg, pt(0, -1): api.ErrArg, pt(10001, 0): api.ErrArg, pt(0, 10001): api.ErrArg,
		pt(huge, 5): api.ErrArg, pt(5, huge): api.ErrArg, pt(tiny, 5): api.ErrArg, pt(5, tiny): api.ErrArg,
	} {
		want(t, "CheckPoint", plane.CheckPoint(p), e)
	}
}

// A1
func TestTurn(t *testing.T) {
	for _, x := range []struct {
		a, b, c api.Point
		turn    int
	}{
		{pt(0, 0), pt(4, 0), pt(2, 1), 1},
		{pt(0, 1), pt(4, 1), pt(2, 0), -1},
		{pt(0, 0), pt(4, 0), pt(9, 0), 0},
		{pt(5, 5), pt(4, 4), pt(9, 9), 0},
		{pt(3, 0), pt(3, 8), pt(3, 1), 0},
		{pt(3, 0), pt(3, 8), pt(2, 1), 1},
		{pt(1, 2), pt(1, 2), pt(7, 3), 0},
		{pt(7, 3), pt(1, 2), pt(1, 2), 0},
		{pt(1, 2), pt(7, 3), pt(1, 2), 0},
		{pt(0, 0), pt(10000, 9999), pt(9999, 9998), -1},
		{pt(0, 0), pt(9999, 9998), pt(10000, 9999), 1},
		{pt(0, 0), pt(10000, 0), pt(0, 10000), 1},
		{pt(10000, 10000), pt(0, 10000), pt(10000, 0), 1},
		{pt(-1, 0), pt(4, 0), pt(2, 1), 0},
		{pt(0, 0), pt(10001, 0), pt(2, 1), 0},
		{pt(0, 0), pt(4, 0), pt(2, 10001), 0},
		{pt(0, 1), pt(4, 0), pt(2, -1), 0},
		{pt(huge, tiny), pt(4, 0), pt(2, huge), 0},
	} {
		if n := plane.Turn(x.a, x.b, x.c); n != x.turn {
			t.Errorf("Turn(%v, %v, %v): %d, want %d", x.a, x.b, x.c, n, x.turn)
		}
	}
}

// P1.1
func TestTurns(t *testing.T) {
	for _, a := range gridPoints(2) {
		for _, b := range gridPoints(3) {
			for _, c := range gridPoints(3) {
				n := plane.Turn(a, b, c)
				if plane.Turn(b, c, a) != n || plane.Turn(b, a, c) != -n {
					t.Fatalf("Turn(%v, %v, %v): %d; turned round: %d; the first two changed: %d", a, b, c, n, plane.Turn(b, c, a), plane.Turn(b, a, c))
				}
			}
		}
	}
}

// A5
func TestLength(t *testing.T) {
	want(t, "Length of nothing", plane.Length(nil), 0)
	want(t, "Length of a point", plane.Length(list(3, 4)), 0)
	want(t, "Length of a way", plane.Length(list(0, 0, 3, 4, 1, 1, 1, 1)), 12)
	want(t, "Length of a way to the left and down", plane.Length(list(9, 8, 2, 3)), 12)
	want(t, "Length of a square without its last side", plane.Length(list(0, 0, 4, 0, 4, 4, 0, 4)), 12)
	want(t, "Length over all", plane.Length(list(0, 0, 10000, 10000, 0, 0)), 40000)
	want(t, "Length with a point that is not valid", plane.Length(list(0, 0, 4, 0, -1, 0)), 0)
	want(t, "Length with a first point that is not valid", plane.Length(list(10001, 0, 4, 0)), 0)
	if n := plane.Length(row(400)); n < 399 {
		t.Errorf("Length of 400 points: %d", n)
	}
	want(t, "Length of 401 points", plane.Length(row(401)), 0)
}

// A5
func TestBox(t *testing.T) {
	for _, x := range []struct {
		l         []api.Point
		low, high api.Point
		ok        bool
	}{
		{list(3, 9, 5, 2, 4, 4), pt(3, 2), pt(5, 9), true},
		{list(7, 8), pt(7, 8), pt(7, 8), true},
		{list(0, 10000, 10000, 0), pt(0, 0), pt(10000, 10000), true},
		{row(450), pt(0, 0), pt(449, 6), true},
		{nil, pt(0, 0), pt(0, 0), false},
		{[]api.Point{}, pt(0, 0), pt(0, 0), false},
		{list(3, 9, 5, -2), pt(0, 0), pt(0, 0), false},
		{list(10001, 9, 5, 2), pt(0, 0), pt(0, 0), false},
	} {
		if low, high, ok := plane.Box(x.l); low != x.low || high != x.high || ok != x.ok {
			t.Errorf("Box(%v): %v, %v, %v", x.l, low, high, ok)
		}
	}
}
