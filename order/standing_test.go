package order_test

import (
	"slices"
	"testing"

	"giornata/api"
	"giornata/order"
)

// E3: the standings of the chapter's problem, and of a circle.
func TestStanding(t *testing.T) {
	o, c := chapterOrder(), problem(4, pairs(0, 1, 1, 2, 2, 0, 2, 3), nil)
	for _, x := range []struct {
		o    api.Order
		a, b int
		want uint8
	}{
		{o, 0, 1, api.FreeBefore}, {o, 0, 3, api.FreeBefore}, {o, 2, 3, api.FreeNone}, {o, 3, 1, api.FreeAfter}, {o, 3, 0, api.FreeAfter},
		{o, 1, 1, api.FreeNone}, {o, 0, 4, api.FreeNone}, {o, 4, 0, api.FreeNone}, {o, -1, 0, api.FreeNone}, {o, 0, -1, api.FreeNone}, {o, huge, tiny, api.FreeNone},
		{c, 0, 1, api.FreeContrary}, {c, 1, 0, api.FreeContrary}, {c, 0, 2, api.FreeContrary}, {c, 1, 3, api.FreeBefore}, {c, 3, 0, api.FreeAfter}, {c, 0, 0, api.FreeNone},
		{problem(25, pairs(0, 1), nil), 0, 1, api.FreeNone}, {problem(2, pairs(0, 1, 0, 1), nil), 0, 1, api.FreeNone}, {problem(0, nil, nil), 0, 0, api.FreeNone},
		{row(24), 0, 23, api.FreeBefore}, {row(24), 23, 0, api.FreeAfter}, {ring(24), 23, 22, api.FreeContrary},
	} {
		want(t, "Standing", order.Standing(x.o, x.a, x.b), x.want)
	}
}

// E6: the longest chains that end with each patch.
func TestLevels(t *testing.T) {
	wants(t, "the chapter's", of(order.Levels(chapterOrder())), p(0, 1, 1, 2), api.OK)
	wants(t, "no patches", of(order.Levels(api.Order{})), nil, api.OK)
	wants(t, "no arcs", of(order.Levels(problem(3, nil, pairs(0, 1)))), p(0, 0, 0), api.OK)
	wants(t, "a short and a long way", of(order.Levels(problem(4, pairs(0, 1, 3, 0, 3, 1, 3, 2), nil))), p(1, 2, 1, 0), api.OK)
	wants(t, "24 patches", of(order.Levels(row(24))), patches(24), api.OK)
	wants(t, "a circle", of(order.Levels(chapterCircle())), nil, api.ErrCircle)
	for _, x := range models(41, 150, 5) {
		levels, e := order.Levels(x.Order)
		if len(x.circles) > 0 {
			wants(t, "Levels with a circle", of(levels, e), nil, api.ErrCircle)
			continue
		}
		longest := make([]int, x.N)
		for _, l := range x.lists {
			if len(l) > 0 && x.isPath(l) {
				longest[l[len(l)-1]] = max(longest[l[len(l)-1]], len(l)-1)
			}
		}
		wants(t, "Levels", of(levels, e), longest, api.OK)
	}
}

// E7: an arc for each chain.
func TestClose(t *testing.T) {
	near := chapterOrder().Near
	wants(t, "the chapter's", of(order.Close(chapterOrder())), problem(4, pairs(0, 1, 0, 2, 0, 3, 1, 3), near), api.OK)
	wants(t, "a circle", of(order.Close(chapterCircle())), problem(4, pairs(0, 1, 0, 2, 0, 3, 1, 0, 1, 2, 1, 3, 3, 0, 3, 1, 3, 2), near), api.OK)
	wants(t, "no patches", of(order.Close(api.Order{})), api.Order{}, api.OK)
	whole := must(t, "Close of a ring", of(order.Close(ring(24))))
	want(t, "the arcs of a ring that is closed", len(whole.Arcs), 24*23)
	for _, x := range models(42, 150, 5) {
		got := must(t, "Close", of(order.Close(x.Order)))
		var arcs []api.Pair
		for a := range x.N {
			for b := range x.N {
				if a != b && x.leads(a, b) {
					arcs = append(arcs, api.Pair{A: a, B: b})
				}
			}
		}
		want(t, "Close", got, problem(x.N, arcs, x.Near))
	}
}

// E7: arcs that a longer chain makes needless.
func TestReduce(t *testing.T) {
	o := chapterOrder()
	wants(t, "the chapter's", of(order.Reduce(problem(4, pairs(0, 1, 0, 2, 0, 3, 1, 3), o.Near))), o, api.OK)
	wants(t, "a problem that has nothing to reduce", of(order.Reduce(o)), o, api.OK)
	wants(t, "arcs over chains of three and four", of(order.Reduce(problem(4, pairs(0, 3, 1, 0, 1, 2, 1, 3, 2, 0), nil))), problem(4, pairs(0, 3, 1, 2, 2, 0), nil), api.OK)
	wants(t, "a circle", of(order.Reduce(chapterCircle())), api.Order{}, api.ErrCircle)
	wants(t, "no patches", of(order.Reduce(api.Order{})), api.Order{}, api.OK)
	closed := must(t, "Close", of(order.Close(row(24))))
	wants(t, "a row that was closed", of(order.Reduce(closed)), row(24), api.OK)
	for _, x := range models(43, 150, 5) {
		if len(x.circles) > 0 {
			wants(t, "Reduce with a circle", of(order.Reduce(x.Order)), api.Order{}, api.ErrCircle)
			continue
		}
		arcs := slices.DeleteFunc(slices.Clone(x.Arcs), func(arc api.Pair) bool {
			return slices.ContainsFunc(x.lists, func(l []int) bool {
				return len(l) >= 3 && l[0] == arc.A && l[len(l)-1] == arc.B && x.isPath(l)
			})
		})
		wants(t, "Reduce", of(order.Reduce(x.Order)), problem(x.N, arcs, x.Near), api.OK)
	}
}
