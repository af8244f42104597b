package order_test

import (
	"slices"
	"testing"

	"giornata/api"
	"giornata/order"
)

// E5: the first order.
func TestFirst(t *testing.T) {
	wants(t, "the chapter's", of(order.First(chapterOrder())), p(0, 1, 2, 3), api.OK)
	wants(t, "a circle", of(order.First(chapterCircle())), nil, api.ErrCircle)
	wants(t, "no patches", of(order.First(api.Order{})), nil, api.OK)
	wants(t, "no arcs", of(order.First(problem(24, nil, nil))), patches(24), api.OK)
	wants(t, "the last patch before all others", of(order.First(problem(4, pairs(3, 0), nil))), p(1, 2, 3, 0), api.OK)
	wants(t, "24 patches with a circle of the last ones", of(order.First(problem(24, pairs(22, 23, 23, 22), nil))), nil, api.ErrCircle)
	wants(t, "25 patches", of(order.First(problem(25, nil, nil))), nil, api.ErrLimit)
	for _, x := range models(61, 300, 5) {
		if len(x.orders) == 0 {
			wants(t, "First with a circle", of(order.First(x.Order)), nil, api.ErrCircle)
		} else {
			wants(t, "First", of(order.First(x.Order)), x.orders[0], api.OK)
		}
	}
}

// E5: what is an order.
func TestCheckOrder(t *testing.T) {
	for _, x := range []struct {
		o    api.Order
		l    []int
		want bool
	}{
		{chapterOrder(), p(0, 1, 2, 3), true}, {chapterOrder(), p(0, 2, 1, 3), true}, {chapterOrder(), p(0, 3, 1, 2), false},
		{chapterOrder(), nil, false}, {chapterOrder(), p(0, 1, 2), false}, {chapterOrder(), p(0, 1, 2, 3, 3), false}, {chapterOrder(), p(0, 1, 1, 3), false},
		{chapterOrder(), p(0, 1, 2, 4), false}, {chapterOrder(), p(-1, 0, 1, 3), false}, {chapterOrder(), p(0, 1, huge, tiny), false},
		{chapterCircle(), p(0, 1, 2, 3), false}, {api.Order{}, nil, true}, {api.Order{}, p(0), false},
	} {
		wants(t, "CheckOrder", of(order.CheckOrder(x.o, x.l)), x.want, api.OK)
	}
	wants(t, "CheckOrder of a wrong problem", of(order.CheckOrder(problem(1, pairs(0, 0), nil), p(0))), false, api.ErrArg)
	for _, x := range models(62, 100, 5) {
		for _, l := range x.lists {
			wants(t, "CheckOrder", of(order.CheckOrder(x.Order, l)), x.isOrder(l), api.OK)
		}
	}
}

// E8: how many orders there are.
func TestCount(t *testing.T) {
	for _, x := range []struct {
		name string
		o    api.Order
		want int
		e    api.Errno
	}{
		{"the chapter's", chapterOrder(), 3, api.OK},
		{"a circle", chapterCircle(), 0, api.OK},
		{"no patches", api.Order{}, 1, api.OK},
		{"12 patches without arcs", problem(12, nil, nil), 479001600, api.OK},
		{"a row of 12 patches", row(12), 1, api.OK},
		{"a circle of 12 patches", ring(12), 0, api.OK},
		{"one before 11 others", problem(12, pairs(4, 5), nil), 239500800, api.OK},
		{"13 patches", problem(13, nil, nil), 0, api.ErrLimit},
		{"13 patches in a circle", ring(13), 0, api.ErrLimit},
		{"25 patches", problem(25, nil, nil), 0, api.ErrLimit},
		{"a wrong problem of 13 patches", problem(13, pairs(0, 0), nil), 0, api.ErrArg},
	} {
		wants(t, x.name, of(order.Count(x.o)), x.want, x.e)
	}
	for _, x := range models(63, 200, 5) {
		wants(t, "Count", of(order.Count(x.Order)), len(x.orders), api.OK)
	}
}

// E9: the numbers of orders.
func TestRankAndNth(t *testing.T) {
	o := chapterOrder()
	for i, l := range [][]int{p(0, 1, 2, 3), p(0, 1, 3, 2), p(0, 2, 1, 3)} {
		wants(t, "Rank", of(order.Rank(o, l)), i, api.OK)
		wants(t, "Nth", of(order.Nth(o, i)), l, api.OK)
	}
	last := patches(12)
	slices.Reverse(last)
	wants(t, "Rank of the last of 12 patches", of(order.Rank(problem(12, nil, nil), last)), 479001599, api.OK)
	wants(t, "Nth of 12 patches", of(order.Nth(problem(12, nil, nil), 479001599)), last, api.OK)
	wants(t, "Rank of no patches", of(order.Rank(api.Order{}, nil)), 0, api.OK)
	wants(t, "Nth of no patches", of(order.Nth(api.Order{}, 0)), nil, api.OK)
	for _, x := range models(64, 150, 5) {
		for i, l := range x.orders {
			wants(t, "Rank", of(order.Rank(x.Order, l)), i, api.OK)
			wants(t, "Nth", of(order.Nth(x.Order, i)), l, api.OK)
		}
		wants(t, "Nth of Count", of(order.Nth(x.Order, len(x.orders))), nil, api.ErrArg)
		for _, l := range x.lists {
			if !x.isOrder(l) {
				wants(t, "Rank of no order", of(order.Rank(x.Order, l)), 0, api.ErrArg)
			}
		}
	}
}

// E9: errors.
func TestRankAndNthErrors(t *testing.T) {
	for _, x := range []struct {
		o api.Order
		l []int
		k int
		e api.Errno
	}{
		{chapterOrder(), p(0, 3, 1, 2), 3, api.ErrArg},
		{chapterOrder(), p(0, 1, 2), -1, api.ErrArg},
		{chapterOrder(), p(0, 1, 2, 2), huge, api.ErrArg},
		{chapterOrder(), p(0, 1, 2, 4), tiny, api.ErrArg},
		{chapterCircle(), p(0, 1, 2, 3), 0, api.ErrArg},
		{api.Order{}, p(0), 1, api.ErrArg},
		{problem(13, nil, nil), patches(13), 0, api.ErrLimit},
		{problem(13, nil, nil), nil, -1, api.ErrLimit},
		{problem(13, pairs(0, 0), nil), patches(13), 0, api.ErrArg},
		{problem(25, nil, nil), patches(25), 0, api.ErrLimit},
	} {
		wants(t, "Rank", of(order.Rank(x.o, x.l)), 0, x.e)
		wants(t, "Nth", of(order.Nth(x.o, x.k)), nil, x.e)
	}
}
