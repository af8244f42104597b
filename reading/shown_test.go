package reading_test

import (
	"testing"

	"giornata/api"
	"giornata/order"
	"giornata/reading"
)

func problem(n int, arcs, near []api.Pair) api.Order { return api.Order{N: n, Arcs: arcs, Near: near} }

// nearAll returns all pairs of n patches.
func nearAll(n int) []api.Pair {
	var out []api.Pair
	for a := range n {
		for b := a + 1; b < n; b++ {
			out = append(out, api.Pair{A: a, B: b})
		}
	}
	return out
}

// H14: what can be seen of days.
func TestShown(t *testing.T) {
	for _, x := range []struct {
		name string
		o    api.Order
		days []int
		l    []api.Observation
	}{
		{"the chapter's", problem(2, nil, pairs(0, 1)), p(4, 1), list("1 0 1 over 2 1")},
		{"no patches", api.Order{}, nil, nil},
		{"no neighbours", problem(2, pairs(0, 1), nil), p(0, 1), nil},
		{"in the order of Near", problem(4, pairs(2, 3), pairs(0, 1, 0, 3, 1, 2, 2, 3)), p(7, 2000, 0, 1), list("1 0 1 over 1 2", "2 0 1 over 4 1", "3 0 1 over 3 2", "4 0 1 over 3 4")},
		{"days one after the other", problem(3, nil, pairs(0, 1, 1, 2)), p(2, 1, 0), list("1 0 1 over 2 1", "2 0 1 over 3 2")},
		{"an arc of neighbours", problem(3, pairs(1, 0), pairs(0, 1)), p(2, 1, 0), list("1 0 1 over 2 1")},
	} {
		wants(t, "Shown: "+x.name, of(reading.Shown(x.o, x.days)), x.l, api.OK)
	}
	l, e := reading.Shown(problem(24, nil, nearAll(24)), from(0, 24))
	wants(t, "all pairs of 24", of(len(l), l[275], e), 276, list("276 0 1 over 23 24")[0], api.OK)
}

// H14: problems and days that are not right.
func TestShownErrors(t *testing.T) {
	two := problem(2, pairs(0, 1), pairs(0, 1))
	for _, x := range []struct {
		name string
		o    api.Order
		days []int
		e    api.Errno
	}{
		{"25 patches", problem(25, nil, nil), from(0, 25), api.ErrLimit},
		{"25 patches, and wrong arcs and days", problem(25, pairs(0, 0), nil), nil, api.ErrLimit},
		{"-1 patches", problem(-1, nil, nil), nil, api.ErrArg},
		{"an arc twice", problem(2, pairs(0, 1, 0, 1), nil), p(0, 1), api.ErrArg},
		{"a neighbour of itself", problem(2, nil, pairs(1, 1)), p(0, 1), api.ErrArg},
		{"neighbours the wrong way round", problem(2, nil, pairs(1, 0)), p(0, 1), api.ErrArg},
		{"neighbours that are none", problem(2, nil, pairs(0, 2)), p(0, 1), api.ErrArg},
		{"no days", two, nil, api.ErrArg},
		{"too few days", two, p(0), api.ErrArg},
		{"too many days", two, p(0, 1, 2), api.ErrArg},
		{"equal days", problem(3, nil, pairs(0, 1)), p(0, 1, 1), api.ErrArg},
		{"equal days of neighbours", problem(2, nil, pairs(0, 1)), p(5, 5), api.ErrArg},
		{"against an arc", two, p(1, 0), api.ErrArg},
		{"against an arc of no neighbours", problem(3, pairs(2, 0), pairs(0, 1)), p(0, 1, 2), api.ErrArg},
		{"a day before the first one", two, p(-1, 0), api.ErrArg},
		{"a day too late", two, p(0, 2001), api.ErrArg},
		{"arcs both ways", problem(2, pairs(0, 1, 1, 0), nil), p(0, 1), api.ErrArg},
	} {
		wants(t, "Shown: "+x.name, of(reading.Shown(x.o, x.days)), nil, x.e)
	}
}

// H15: the world of days.
func TestRanks(t *testing.T) {
	for _, x := range []struct {
		n     int
		days  []int
		world []int
	}{
		{0, nil, nil}, {1, p(0), p(1)}, {1, p(huge), p(1)}, {1, p(tiny), p(1)}, {2, p(4, 1), p(2, 1)}, {3, p(5, 5, 5), p(1, 1, 1)}, {4, p(9, 3, 9, 7), p(3, 1, 3, 2)}, {4, p(0, -1, tiny, huge), p(3, 2, 1, 4)}, {3, p(1, 2, 3), p(1, 2, 3)}, {3, p(100, 2, 50), p(3, 1, 2)}, {24, from(7, 24), from(1, 24)}, {24, back(24), back(24)},
	} {
		wants(t, "Ranks", of(reading.Ranks(x.n, x.days)), x.world, api.OK)
	}
	d := &dice{41}
	for range 200 {
		var days []int
		for range d.roll(25) {
			days = append(days, d.roll(12)*d.roll(12)-20)
		}
		wants(t, "Ranks", of(reading.Ranks(len(days), days)), ranked(days), api.OK)
	}
	for _, x := range []struct {
		n    int
		days []int
	}{{-1, nil}, {25, from(0, 25)}, {25, nil}, {tiny, nil}, {huge, nil}, {0, p(1)}, {1, nil}, {2, p(1)}, {2, p(1, 2, 3)}, {24, from(0, 25)}} {
		wants(t, "Ranks of a wrong number of days", of(reading.Ranks(x.n, x.days)), nil, api.ErrArg)
	}
}

// days returns an order problem, and days that are kept for it.
func (d *dice) days(n int) (api.Order, []int) {
	l := d.shuffled(n)
	var days []int
	for _, place := range l {
		days = append(days, place*d.roll(80)%7+place*7)
	}
	o := problem(n, nil, nil)
	for _, x := range nearAll(n) {
		if d.roll(2) == 0 {
			o.Near = append(o.Near, x)
		}
	}
	for a := range n {
		for b := range n {
			if days[a] < days[b] && d.roll(3) == 0 {
				o.Arcs = append(o.Arcs, api.Pair{A: a, B: b})
			}
		}
	}
	return o, days
}

// P8.8: what is shown of days is true in their world, and all pairs show it.
func TestWalls(t *testing.T) {
	d := &dice{42}
	for range 200 {
		o, days := d.days(d.roll(25))
		wants(t, "the days of a wall", of(order.CheckDays(o, 0, days)), true, api.OK)
		l, e := reading.Shown(o, days)
		want(t, "the error of Shown", e, api.OK)
		wants(t, "Check of Shown", of(reading.Check(o.N, l)), 0, api.OK)
		world, e := reading.Ranks(o.N, days)
		want(t, "the error of Ranks", e, api.OK)
		wants(t, "CheckWorld of Ranks", of(reading.CheckWorld(o.N, l, 0, world)), true, api.OK)
		wants(t, "Agrees of Ranks", of(reading.Agrees(o.N, l, 0, world)), nil, api.OK)
		want(t, "as many as neighbours", len(l), len(o.Near))
		for i, x := range l {
			near := api.Pair{A: min(x.A, x.B) - 1, B: max(x.A, x.B) - 1}
			want(t, "the neighbours that are shown", near, o.Near[i])
			x.A, x.B = 0, 0
			want(t, "the other fields", x, api.Observation{Id: i + 1, Reader: 1, Kind: api.ObOver})
		}
		o.Near = nearAll(o.N)
		l, e = reading.Shown(o, days)
		want(t, "the error of Shown", e, api.OK)
		wants(t, "World of all pairs", of(reading.World(o.N, l, 0)), world, api.OK)
		wants(t, "Open of all pairs", of(reading.Open(o.N, l, 0)), nil, api.OK)
		if o.N <= api.MaxWorlds {
			wants(t, "Worlds of all pairs", of(reading.Worlds(o.N, l, 0)), 1, api.OK)
		}
	}
}
