package order_test

import (
	"slices"
	"testing"

	"giornata/api"
	"giornata/order"
)

// E4: the first circle is the shortest one, and of several the one that is least as a list.
func TestCircle(t *testing.T) {
	for _, x := range []struct {
		name string
		o    api.Order
		l    []int
	}{
		{"the chapter's", chapterOrder(), nil},
		{"the chapter's with {3, 0}", chapterCircle(), p(0, 1, 3)},
		{"no patches", api.Order{}, nil},
		{"arcs both ways", problem(3, pairs(1, 2, 2, 1), nil), p(1, 2)},
		{"a long circle with lesser patches", problem(5, pairs(0, 1, 1, 2, 2, 0, 3, 4, 4, 3), nil), p(3, 4)},
		{"circles of the same length", problem(5, pairs(0, 2, 0, 3, 1, 0, 2, 4, 3, 1, 4, 0), nil), p(0, 2, 4)},
		{"the least patch is not the first with an arc", problem(4, pairs(0, 1, 1, 2, 2, 3, 3, 1), nil), p(1, 2, 3)},
		{"a list that branches", problem(5, pairs(0, 1, 1, 2, 2, 3, 2, 4, 3, 0), nil), p(0, 1, 2, 3)},
		{"24 patches", ring(24), patches(24)},
		{"a circle from the greatest patches", problem(24, pairs(22, 23, 23, 22), nil), p(22, 23)},
		{"25 patches", problem(25, pairs(0, 1, 1, 0), nil), nil},
		{"an arc twice", problem(2, pairs(0, 1, 0, 1, 1, 0), nil), nil},
	} {
		want(t, x.name, circleOf(x.o), found{x.l, x.l != nil})
	}
	for _, x := range models(51, 400, 5) {
		var first found
		if len(x.circles) > 0 {
			first = found{x.circles[0], true}
		}
		want(t, "Circle", circleOf(x.Order), first)
	}
}

// E4: what is a circle.
func TestCheckCircle(t *testing.T) {
	o := chapterCircle()
	for _, x := range []struct {
		l    []int
		want bool
	}{
		{p(0, 1, 3), true}, {p(1, 3, 0), true}, {p(3, 0, 1), true},
		{nil, false}, {p(0), false}, {p(0, 1), false}, {p(0, 3, 1), false}, {p(0, 1, 3, 0, 1, 3), false}, {p(0, 1, 3, 0), false},
		{p(0, 2), false}, {p(0, 1, 4), false}, {p(-1, 0), false}, {p(huge, tiny), false}, {p(0, 0), false},
	} {
		want(t, "CheckCircle", order.CheckCircle(o, x.l), x.want)
	}
	want(t, "CheckCircle of a wrong problem", order.CheckCircle(problem(2, pairs(0, 1, 1, 0, 1, 0), nil), p(0, 1)), false)
	want(t, "CheckCircle of 25 patches", order.CheckCircle(problem(25, pairs(0, 1, 1, 0), nil), p(0, 1)), false)
	for _, x := range models(52, 100, 4) {
		for _, l := range x.lists {
			want(t, "CheckCircle", order.CheckCircle(x.Order, l), x.isCircle(l))
		}
	}
}

// E12: the fewest arcs, and the first ones of several.
func TestLeast(t *testing.T) {
	for _, x := range []struct {
		name string
		o    api.Order
		want []api.Pair
		e    api.Errno
	}{
		{"no circle", chapterOrder(), nil, api.OK},
		{"the chapter's with {3, 0}", chapterCircle(), pairs(0, 1), api.OK},
		{"no patches", api.Order{}, nil, api.OK},
		{"an arc of two circles", problem(4, pairs(0, 1, 1, 2, 1, 3, 2, 0, 3, 0), nil), pairs(0, 1), api.OK},
		{"an arc of two circles that is not the first one", problem(4, pairs(0, 1, 0, 2, 1, 3, 2, 3, 3, 0), nil), pairs(3, 0), api.OK},
		{"two circles that share nothing", problem(4, pairs(0, 1, 1, 0, 2, 3, 3, 2), nil), pairs(0, 1, 2, 3), api.OK},
		{"the first of two lists, whose last arc is the greater one", problem(6, pairs(0, 4, 1, 3, 2, 3, 3, 0, 3, 5, 4, 1, 4, 2, 5, 4), nil), pairs(0, 4, 3, 5), api.OK},
		{"8 patches", ring(8), pairs(0, 1), api.OK},
		{"9 patches", row(9), nil, api.ErrLimit},
		{"16 arcs", dense(5, 16), modelOf(dense(5, 16)).least(), api.OK},
		{"17 arcs", dense(5, 17), nil, api.ErrLimit},
		{"56 arcs", dense(8, 56), nil, api.ErrLimit},
		{"a wrong problem with 9 patches", problem(9, pairs(0, 0), nil), nil, api.ErrArg},
	} {
		wants(t, x.name, of(order.Least(x.o)), x.want, x.e)
	}
	for _, x := range models(53, 150, 4) {
		wants(t, "Least", of(order.Least(x.Order)), x.least(), api.OK)
	}
}

// dense returns a problem with the first arcs of all.
func dense(n, arcs int) api.Order {
	var all []api.Pair
	for a := range n {
		for b := range n {
			if a != b {
				all = append(all, api.Pair{A: a, B: b})
			}
		}
	}
	return problem(n, slices.Clone(all[:arcs]), nil)
}
