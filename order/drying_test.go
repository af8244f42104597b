package order_test

import (
	"slices"
	"testing"

	"giornata/api"
	"giornata/order"
)

// E13: the earliest days.
func TestDays(t *testing.T) {
	o := chapterOrder()
	for _, x := range []struct {
		o    api.Order
		dry  int
		l    []int
		want []int
		e    api.Errno
	}{
		{o, 2, p(0, 1, 2, 3), p(0, 3, 6, 9), api.OK},
		{o, 2, p(0, 2, 1, 3), p(0, 4, 1, 5), api.OK},
		{o, 0, p(0, 1, 3, 2), p(0, 1, 3, 2), api.OK},
		{o, 30, p(0, 1, 2, 3), p(0, 31, 62, 93), api.OK},
		{problem(3, nil, pairs(0, 1)), 1, p(2, 1, 0), p(3, 1, 0), api.OK},
		{problem(4, nil, pairs(0, 3, 1, 3)), 5, p(0, 1, 2, 3), p(0, 1, 2, 7), api.OK},
		{api.Order{}, 0, nil, nil, api.OK},
		{o, 2, p(0, 3, 1, 2), nil, api.ErrArg},
		{o, 2, p(0, 1, 2), nil, api.ErrArg},
		{o, 2, p(0, 1, 2, 4), nil, api.ErrArg},
		{o, 2, p(0, 1, 2, -1), nil, api.ErrArg},
		{o, 2, p(0, 1, 1, 3), nil, api.ErrArg},
		{o, -1, p(0, 1, 2, 3), nil, api.ErrArg},
		{o, 31, p(0, 1, 2, 3), nil, api.ErrArg},
		{chapterCircle(), 2, p(0, 1, 2, 3), nil, api.ErrArg},
		{problem(25, nil, nil), -1, nil, nil, api.ErrLimit},
	} {
		wants(t, "Days", of(order.Days(x.o, x.dry, x.l)), x.want, x.e)
	}
	long := must(t, "Days", of(order.Days(row(24), 30, patches(24))))
	want(t, "the last day of a row of 24 patches", long[23], 23*31)
	for _, x := range models(81, 60, 5) {
		for _, l := range x.orders {
			for _, dry := range p(0, 1, 2, 7, 30) {
				wants(t, "Days", of(order.Days(x.Order, dry, l)), x.days(dry, l), api.OK)
			}
		}
	}
}

// E14: what is kept.
func TestCheckDays(t *testing.T) {
	o, alone := chapterOrder(), problem(2, nil, nil)
	for _, x := range []struct {
		o    api.Order
		dry  int
		days []int
		want bool
		e    api.Errno
	}{
		{o, 2, p(0, 3, 6, 9), true, api.OK},
		{o, 2, p(0, 3, 7, 4), true, api.OK},
		{o, 2, p(0, 3, 7, 5), false, api.OK},
		{o, 2, p(0, 3, 5, 9), false, api.OK},
		{o, 2, p(0, 4, 1, 5), true, api.OK},
		{o, 2, p(0, 4, 1, 4), false, api.OK},
		{o, 0, p(0, 2, 1, 3), true, api.OK},
		{o, 0, p(1, 0, 2, 3), false, api.OK},
		{o, 2, p(0, 3, 6), false, api.OK},
		{o, 2, p(0, 3, 6, 9, 12), false, api.OK},
		{o, 2, nil, false, api.OK},
		{alone, 0, p(5, 5), false, api.OK},
		{alone, 0, p(2000, 0), true, api.OK},
		{alone, 0, p(2001, 0), false, api.OK},
		{alone, 0, p(-1, 0), false, api.OK},
		{alone, 0, p(tiny, huge), false, api.OK},
		{alone, 30, p(0, 1), true, api.OK},
		{problem(2, nil, pairs(0, 1)), 30, p(31, 0), true, api.OK},
		{problem(2, nil, pairs(0, 1)), 30, p(30, 0), false, api.OK},
		{problem(2, nil, pairs(0, 1)), 30, p(huge, tiny), false, api.OK},
		{problem(2, pairs(0, 1, 1, 0), nil), 0, p(0, 1), false, api.OK},
		{api.Order{}, 30, nil, true, api.OK},
		{api.Order{}, 31, nil, false, api.ErrArg},
		{o, -1, p(0, 3, 6, 9), false, api.ErrArg},
		{o, huge, nil, false, api.ErrArg},
		{problem(2, pairs(0, 0), nil), 0, p(0, 1), false, api.ErrArg},
		{problem(25, nil, nil), -1, nil, false, api.ErrLimit},
	} {
		wants(t, "CheckDays", of(order.CheckDays(x.o, x.dry, x.days)), x.want, x.e)
	}
	d := &dice{82}
	for _, x := range models(83, 400, 4) {
		days := make([]int, x.N)
		for i := range days {
			days[i] = d.roll(9)
		}
		dry := d.roll(3)
		wants(t, "CheckDays", of(order.CheckDays(x.Order, dry, days)), x.isKept(dry, days), api.OK)
	}
}

// E15: why the last patch is laid no earlier.
func TestReasons(t *testing.T) {
	o := chapterOrder()
	for _, x := range []struct {
		o    api.Order
		dry  int
		l    []int
		want []api.Reason
		e    api.Errno
	}{
		{o, 2, p(0, 1, 2, 3), []api.Reason{{Patch: 3, From: 2, Kind: 2}, {Patch: 2, From: 1, Kind: 2}, {Patch: 1, From: 0, Kind: 2}, {Patch: 0, From: -1, Kind: 0}}, api.OK},
		{o, 2, p(0, 2, 1, 3), []api.Reason{{Patch: 3, From: 1, Kind: 1}, {Patch: 1, From: 2, Kind: 2}, {Patch: 2, From: 0, Kind: 1}, {Patch: 0, From: -1, Kind: 0}}, api.OK},
		{o, 0, p(0, 1, 2, 3), []api.Reason{{Patch: 3, From: 2, Kind: 2}, {Patch: 2, From: 1, Kind: 2}, {Patch: 1, From: 0, Kind: 2}, {Patch: 0, From: -1, Kind: 0}}, api.OK},
		{problem(2, nil, nil), 7, p(1, 0), []api.Reason{{Patch: 0, From: 1, Kind: 1}, {Patch: 1, From: -1, Kind: 0}}, api.OK},
		// The patch 3 waits for the neighbour 0 alone, and the reasons pass over 1 and 2.
		{problem(4, nil, pairs(0, 3, 1, 3)), 5, p(1, 0, 2, 3), []api.Reason{{Patch: 3, From: 0, Kind: 2}, {Patch: 0, From: 1, Kind: 1}, {Patch: 1, From: -1, Kind: 0}}, api.OK},
		{problem(3, nil, pairs(0, 1)), 1, p(1, 2, 0), []api.Reason{{Patch: 0, From: 1, Kind: 2}, {Patch: 1, From: -1, Kind: 0}}, api.OK},
		{problem(1, nil, nil), 0, p(0), []api.Reason{{Patch: 0, From: -1, Kind: 0}}, api.OK},
		{api.Order{}, 0, nil, nil, api.OK},
		{o, 31, p(0, 1, 2, 3), nil, api.ErrArg},
		{o, -1, nil, nil, api.ErrArg},
		{o, 2, p(0, 3, 1, 2), nil, api.ErrArg},
		{o, 2, p(0, 1, 2, huge), nil, api.ErrArg},
		{chapterCircle(), 2, p(0, 1, 2, 3), nil, api.ErrArg},
		{problem(25, nil, nil), 31, nil, nil, api.ErrLimit},
	} {
		wants(t, "Reasons", of(order.Reasons(x.o, x.dry, x.l)), x.want, x.e)
	}
	for _, x := range models(84, 60, 5) {
		for _, l := range x.orders {
			for _, dry := range p(0, 1, 2, 30) {
				wants(t, "Reasons", of(order.Reasons(x.Order, dry, l)), x.reasons(dry, l), api.OK)
			}
		}
	}
}

// reasons finds the reasons by looking at all kinds of them, in the order of the chapter.
func (x model) reasons(dry int, l []int) []api.Reason {
	if len(l) == 0 {
		return nil
	}
	days := x.days(dry, l)
	last := len(l) - 1
	p := l[last]
	if days[p] == 0 {
		return []api.Reason{{Patch: p, From: -1, Kind: api.ReasonFirst}}
	}
	before := slices.Sorted(slices.Values(l[:last]))
	i := slices.IndexFunc(before, func(q int) bool {
		return slices.Contains(x.Near, api.Pair{A: min(p, q), B: max(p, q)}) && days[p]-days[q] == dry+1
	})
	reason := api.Reason{Patch: p, From: l[last-1], Kind: api.ReasonDay}
	if i >= 0 {
		reason = api.Reason{Patch: p, From: before[i], Kind: api.ReasonNear}
	}
	return slices.Concat([]api.Reason{reason}, x.reasons(dry, l[:slices.Index(l, reason.From)+1]))
}

// E16: the first order that ends first.
func TestWait(t *testing.T) {
	for _, x := range []struct {
		name string
		o    api.Order
		dry  int
		want api.Schedule
		e    api.Errno
	}{
		{"the chapter's", chapterOrder(), 2, api.Schedule{Order: p(0, 2, 1, 3), Days: p(0, 4, 1, 5)}, api.OK},
		{"the chapter's without drying", chapterOrder(), 0, api.Schedule{Order: p(0, 1, 2, 3), Days: p(0, 1, 2, 3)}, api.OK},
		{"no patches", api.Order{}, 30, api.Schedule{}, api.OK},
		{"one patch", problem(1, nil, nil), 30, api.Schedule{Order: p(0), Days: p(0)}, api.OK},
		{"8 patches", row(8), 30, api.Schedule{Order: patches(8), Days: p(0, 31, 62, 93, 124, 155, 186, 217)}, api.OK},
		{"8 patches without arcs", problem(8, nil, pairs(0, 1)), 3, api.Schedule{Order: p(0, 2, 3, 4, 1, 5, 6, 7), Days: p(0, 4, 1, 2, 3, 5, 6, 7)}, api.OK},
		{"8 neighbours in a row", problem(8, nil, row(8).Near), 1, modelOf(problem(8, nil, row(8).Near)).wait(1), api.OK},
		{"a dry below 0", chapterCircle(), -1, api.Schedule{}, api.ErrArg},
		{"a dry of 31 for 9 patches", ring(9), 31, api.Schedule{}, api.ErrArg},
		{"9 patches in a circle", ring(9), 30, api.Schedule{}, api.ErrLimit},
		{"9 patches", row(9), 0, api.Schedule{}, api.ErrLimit},
		{"a circle", chapterCircle(), 0, api.Schedule{}, api.ErrCircle},
		{"a wrong problem with a wrong dry", problem(25, nil, nil), -1, api.Schedule{}, api.ErrLimit},
	} {
		wants(t, x.name, of(order.Wait(x.o, x.dry)), x.want, x.e)
	}
	for _, x := range models(85, 80, 5) {
		for _, dry := range p(0, 1, 2, 9) {
			if len(x.circles) > 0 {
				wants(t, "Wait with a circle", of(order.Wait(x.Order, dry)), api.Schedule{}, api.ErrCircle)
			} else {
				wants(t, "Wait", of(order.Wait(x.Order, dry)), x.wait(dry), api.OK)
			}
		}
	}
}
