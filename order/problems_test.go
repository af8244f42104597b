package order_test

import (
	"slices"
	"testing"

	"giornata/api"
	"giornata/order"
)

// E1: valid problems, and each thing that may be wrong with one.
func TestCheck(t *testing.T) {
	for _, x := range []struct {
		name string
		o    api.Order
		want api.Errno
	}{
		{"the chapter's", chapterOrder(), api.OK},
		{"no patches", problem(0, nil, nil), api.OK},
		{"24 patches", row(24), api.OK},
		{"arcs both ways", problem(2, pairs(0, 1, 1, 0), pairs(0, 1)), api.OK},
		{"an arc without neighbours", problem(2, pairs(1, 0), nil), api.OK},
		{"25 patches", problem(25, nil, nil), api.ErrLimit},
		{"25 patches, and an arc that is wrong", problem(25, pairs(0, 0), nil), api.ErrLimit},
		{"the greatest number", problem(huge, nil, nil), api.ErrLimit},
		{"a number below 0", problem(-1, nil, nil), api.ErrArg},
		{"the least number", problem(tiny, nil, nil), api.ErrArg},
		{"an arc to itself", problem(2, pairs(1, 1), nil), api.ErrArg},
		{"an arc to no patch", problem(2, pairs(0, 2), nil), api.ErrArg},
		{"an arc from no patch", problem(2, pairs(2, 0), nil), api.ErrArg},
		{"an arc from below 0", problem(2, pairs(-1, 0), nil), api.ErrArg},
		{"an arc to below 0", problem(2, pairs(0, -1), nil), api.ErrArg},
		{"an arc without patches", problem(0, pairs(0, 1), nil), api.ErrArg},
		{"arcs that descend", problem(3, pairs(1, 2, 0, 1), nil), api.ErrArg},
		{"arcs that descend in B", problem(3, pairs(0, 2, 0, 1), nil), api.ErrArg},
		{"an arc twice", problem(3, pairs(0, 1, 0, 1), nil), api.ErrArg},
		{"neighbours with the greater first", problem(2, nil, pairs(1, 0)), api.ErrArg},
		{"a neighbour of itself", problem(2, nil, pairs(1, 1)), api.ErrArg},
		{"a neighbour that is no patch", problem(2, nil, pairs(0, 2)), api.ErrArg},
		{"a neighbour below 0", problem(2, nil, pairs(-1, 0)), api.ErrArg},
		{"neighbours that descend", problem(3, nil, pairs(1, 2, 0, 1)), api.ErrArg},
		{"neighbours that descend in B", problem(3, nil, pairs(0, 2, 0, 1)), api.ErrArg},
		{"neighbours twice", problem(3, nil, pairs(0, 1, 0, 1)), api.ErrArg},
	} {
		want(t, x.name, order.Check(x.o), x.want)
	}
}

// sheet returns a sheet that has seams alone.
func sheet(seams ...api.Seam) api.Sheet { return api.Sheet{Seams: seams} }

func division(patches ...[]int) api.Division { return api.Division{Patches: patches} }

func seam(a, b int, upper uint8) api.Seam { return api.Seam{A: a, B: b, Upper: upper} }

// E2: arcs and neighbours between patches, in ascending order and once each.
func TestFrom(t *testing.T) {
	for _, x := range []struct {
		name string
		s    api.Sheet
		d    api.Division
		want api.Order
	}{
		{"nothing", sheet(), division(), problem(0, nil, nil)},
		{"no upper cell", sheet(seam(0, 1, 0)), division(p(0), p(1)), problem(2, nil, pairs(0, 1))},
		{"the cell A above", sheet(seam(0, 1, api.UpA)), division(p(0), p(1)), problem(2, pairs(0, 1), pairs(0, 1))},
		{"the cell B above", sheet(seam(0, 1, api.UpB)), division(p(0), p(1)), problem(2, pairs(1, 0), pairs(0, 1))},
		{"both above", sheet(seam(0, 1, api.UpBoth)), division(p(0), p(1)), problem(2, pairs(0, 1, 1, 0), pairs(0, 1))},
		{"the cell A above, in the second patch", sheet(seam(0, 1, api.UpA)), division(p(1), p(0)), problem(2, pairs(1, 0), pairs(0, 1))},
		{"the cell B above, in the first patch", sheet(seam(0, 1, api.UpB)), division(p(1), p(0)), problem(2, pairs(0, 1), pairs(0, 1))},
		{"a seam within a patch", sheet(seam(0, 1, api.UpA)), division(p(0, 1)), problem(1, nil, nil)},
		{"a patch above another one at one place, and below it at another one",
			sheet(seam(0, 2, api.UpA), seam(1, 3, api.UpB)), division(p(0, 1), p(2, 3)), problem(2, pairs(0, 1, 1, 0), pairs(0, 1))},
		{"seams that give the same arcs", sheet(seam(0, 2, api.UpB), seam(1, 3, api.UpB)), division(p(0, 1), p(2, 3)), problem(2, pairs(1, 0), pairs(0, 1))},
		{"seams that give descending arcs", sheet(seam(0, 1, api.UpA), seam(1, 2, api.UpA), seam(0, 2, api.UpB)), division(p(2), p(1), p(0)),
			problem(3, pairs(0, 2, 1, 0, 2, 1), pairs(0, 1, 0, 2, 1, 2))},
		{"patches without seams", sheet(seam(4, 9, api.UpA)), division(p(7), p(9), p(8), p(4)), problem(4, pairs(3, 1), pairs(1, 3))},
		{"a sheet and a division that are not right", sheet(seam(tiny, huge, api.UpA), seam(huge, huge, 0)), division(nil, p(huge, huge), p(tiny, 5), p(5)),
			problem(4, pairs(2, 1), pairs(1, 2))},
	} {
		wants(t, x.name, of(order.From(x.s, x.d)), x.want, api.OK)
	}
	full := division()
	for i := range 24 {
		full.Patches = append(full.Patches, p(i))
	}
	wants(t, "24 patches", of(order.From(sheet(seam(23, 0, api.UpA)), full)), problem(24, pairs(23, 0), pairs(0, 23)), api.OK)
}

// E2: errors.
func TestFromErrors(t *testing.T) {
	for _, x := range []struct {
		name string
		s    api.Sheet
		d    api.Division
		want api.Errno
	}{
		{"25 patches", sheet(), division(make([][]int, 25)...), api.ErrLimit},
		{"25 patches, and a cell in no patch", sheet(seam(0, 1, 4)), division(make([][]int, 25)...), api.ErrLimit},
		{"a cell A in no patch", sheet(seam(0, 1, 0)), division(p(1)), api.ErrArg},
		{"a cell B in no patch", sheet(seam(0, 1, 0)), division(p(0)), api.ErrArg},
		{"a cell of the second seam in no patch", sheet(seam(0, 1, 0), seam(1, 2, 0)), division(p(0), p(1)), api.ErrArg},
		{"a cell A in two patches", sheet(seam(0, 1, 0)), division(p(0), p(1), p(0)), api.ErrArg},
		{"a cell B in two patches", sheet(seam(0, 1, 0)), division(p(0, 1), p(1)), api.ErrArg},
		{"a cell in three patches", sheet(seam(0, 1, 0)), division(p(0), p(1), p(1), p(1)), api.ErrArg},
		{"an upper of 4", sheet(seam(0, 1, 4)), division(p(0), p(1)), api.ErrArg},
		{"an upper of 255", sheet(seam(0, 1, 255)), division(p(0), p(1)), api.ErrArg},
		{"an upper of 4 within a patch", sheet(seam(0, 1, 4)), division(p(0, 1)), api.ErrArg},
	} {
		wants(t, x.name, of(order.From(x.s, x.d)), api.Order{}, x.want)
	}
}

// E2: what From returns is valid, and says of each seam what it has to.
func TestFromAny(t *testing.T) {
	d := &dice{31}
	for range 300 {
		n := 1 + d.roll(8)
		div := division(make([][]int, 1+d.roll(5))...)
		in := map[int]int{}
		for cell := range n {
			in[cell] = d.roll(len(div.Patches))
			div.Patches[in[cell]] = append(div.Patches[in[cell]], cell)
		}
		var arcs, near []api.Pair
		var s api.Sheet
		for range d.roll(12) {
			x := seam(d.roll(n), d.roll(n), uint8(d.roll(4)))
			s.Seams = append(s.Seams, x)
			p, q := in[x.A], in[x.B]
			if p == q {
				continue
			}
			near = append(near, api.Pair{A: min(p, q), B: max(p, q)})
			if x.Upper == 1 || x.Upper == 3 {
				arcs = append(arcs, api.Pair{A: p, B: q})
			}
			if x.Upper == 2 || x.Upper == 3 {
				arcs = append(arcs, api.Pair{A: q, B: p})
			}
		}
		o := must(t, "From", of(order.From(s, div)))
		want(t, "Check", order.Check(o), api.OK)
		want(t, "N", o.N, len(div.Patches))
		for _, x := range []struct{ got, all []api.Pair }{{o.Arcs, arcs}, {o.Near, near}} {
			want(t, "pairs too many", len(without(x.got, x.all)), 0)
			want(t, "pairs that are missing", len(without(x.all, x.got)), 0)
		}
	}
}

// E17: the problem of some patches.
func TestRestrict(t *testing.T) {
	o := chapterOrder()
	for _, x := range []struct {
		keep []int
		want api.Order
		e    api.Errno
	}{
		{nil, problem(0, nil, nil), api.OK},
		{p(2), problem(1, nil, nil), api.OK},
		{p(0, 1, 2, 3), o, api.OK},
		{p(0, 1, 3), problem(3, pairs(0, 1, 1, 2), pairs(0, 1)), api.OK},
		{p(3, 2, 1, 0), problem(4, pairs(2, 0, 3, 1, 3, 2), pairs(0, 1, 1, 2, 2, 3)), api.OK},
		{p(2, 0), problem(2, pairs(1, 0), nil), api.OK},
		{p(2, 1, 3), problem(3, pairs(1, 2), pairs(0, 1, 0, 2)), api.OK},
		{p(0, 3), problem(2, nil, nil), api.OK},
		{p(0, 4), api.Order{}, api.ErrArg},
		{p(-1), api.Order{}, api.ErrArg},
		{p(1, 0, 1), api.Order{}, api.ErrArg},
		{p(0, 1, 2, 3, 0), api.Order{}, api.ErrArg},
		{p(huge), api.Order{}, api.ErrArg},
		{p(tiny), api.Order{}, api.ErrArg},
	} {
		wants(t, "Restrict", of(order.Restrict(o, x.keep)), x.want, x.e)
	}
	wants(t, "Restrict with a circle", of(order.Restrict(chapterCircle(), p(3, 1, 0))), problem(3, pairs(0, 2, 1, 0, 2, 1), pairs(1, 2)), api.OK)
}

// E17: arcs and neighbours are those among the patches that are kept.
func TestRestrictAny(t *testing.T) {
	d := &dice{32}
	for _, x := range models(33, 150, 5) {
		keep := d.shuffled(x.N)[:d.roll(x.N+1)]
		got := must(t, "Restrict", of(order.Restrict(x.Order, keep)))
		want(t, "Check", order.Check(got), api.OK)
		want(t, "N", got.N, len(keep))
		for i, a := range keep {
			for j, b := range keep {
				want(t, "an arc", slices.Contains(got.Arcs, api.Pair{A: i, B: j}), x.hasArc(a, b))
				near := i < j && slices.Contains(x.Near, api.Pair{A: min(a, b), B: max(a, b)})
				want(t, "neighbours", slices.Contains(got.Near, api.Pair{A: i, B: j}), near)
			}
		}
	}
}

// E17: the problem of both.
func TestJoin(t *testing.T) {
	o, q := chapterOrder(), problem(4, pairs(0, 2, 3, 0), pairs(0, 3, 1, 2))
	wants(t, "Join", of(order.Join(o, q)), problem(4, pairs(0, 1, 0, 2, 1, 3, 3, 0), pairs(0, 1, 0, 3, 1, 2, 2, 3)), api.OK)
	wants(t, "Join the other way", of(order.Join(q, o)), must(t, "Join", of(order.Join(o, q))), api.OK)
	wants(t, "Join of no patches", of(order.Join(api.Order{}, api.Order{})), api.Order{}, api.OK)
	wants(t, "Join of other numbers", of(order.Join(o, row(3))), api.Order{}, api.ErrArg)
	wants(t, "Join of 25 and a wrong one", of(order.Join(problem(25, nil, nil), problem(-1, nil, nil))), api.Order{}, api.ErrLimit)
	wants(t, "Join of a wrong one and 25", of(order.Join(problem(-1, nil, nil), problem(25, nil, nil))), api.Order{}, api.ErrArg)
	wants(t, "Join of a right one and 25", of(order.Join(o, problem(25, nil, nil))), api.Order{}, api.ErrLimit)
	wants(t, "Join of a right one and one with an arc to itself", of(order.Join(o, problem(4, pairs(1, 1), nil))), api.Order{}, api.ErrArg)
}
