package order_test

import (
	"slices"
	"testing"

	"giornata/api"
	"giornata/order"
)

// wides returns problems of up to most patches, more than the model can list.
func wides(seed uint64, count, most int) []api.Order {
	d := &dice{seed}
	var out []api.Order
	for range count {
		out = append(out, d.order(d.roll(most+1)))
	}
	return out
}

// P5.1 (T4): a first order, or else a circle, which no other one is shorter than.
func TestOrderOrCircle(t *testing.T) {
	for _, o := range wides(101, 300, 24) {
		l, e := order.First(o)
		got := circleOf(o)
		want(t, "there is a circle", got.is, e == api.ErrCircle)
		if !got.is {
			wants(t, "CheckOrder of First", of(order.CheckOrder(o, l)), true, e)
			continue
		}
		want(t, "CheckCircle of Circle", order.CheckCircle(o, got.l), true)
		for i, a := range got.l {
			for _, b := range got.l[:i] {
				want(t, "Standing within a circle", order.Standing(o, a, b), api.FreeContrary)
			}
		}
		want(t, "at least two patches", len(got.l) >= 2, true)
		want(t, "the least patch is the first one", got.l[0], slices.Min(got.l))
	}
	for _, x := range models(102, 200, 5) {
		for _, l := range x.circles {
			want(t, "no circle is shorter", len(l) >= len(circleOf(x.Order).l), true)
		}
	}
}

// T4: what lies above is laid before what lies below, and a shortest circle shows where that contradicts itself.
func TestSeamsToOrders(t *testing.T) {
	s := sheet(seam(0, 2, api.UpA), seam(1, 3, api.UpB), seam(2, 3, api.UpB))
	o := must(t, "From", of(order.From(s, division(p(2), p(3), p(0), p(1)))))
	wants(t, "First", of(order.First(o)), p(1, 2, 0, 3), api.OK)
	o = must(t, "From", of(order.From(s, division(p(2, 3), p(0, 1)))))
	want(t, "Circle", circleOf(o), found{p(0, 1), true})
	wants(t, "First", of(order.First(o)), nil, api.ErrCircle)
}

// P5.2: mirrored standings, and what comes before in every order.
func TestStandings(t *testing.T) {
	mirror := map[uint8]uint8{api.FreeNone: api.FreeNone, api.FreeBefore: api.FreeAfter, api.FreeAfter: api.FreeBefore, api.FreeContrary: api.FreeContrary}
	for _, x := range models(103, 200, 5) {
		for a := range x.N {
			for b := range x.N {
				got := order.Standing(x.Order, a, b)
				mirrored, is := mirror[order.Standing(x.Order, b, a)]
				want(t, "the mirror image", is && got == mirrored, true)
				if a == b {
					want(t, "the standing to itself", got, api.FreeNone)
					continue
				}
				want(t, "the standing by chains", got, x.standing(a, b))
				always := !slices.ContainsFunc(x.orders, func(l []int) bool { return slices.Index(l, a) > slices.Index(l, b) })
				if len(x.orders) > 0 {
					want(t, "before in every order", got == api.FreeBefore, always)
				}
			}
		}
	}
}

// standings returns the standings of all patches to all others.
func standings(o api.Order) []uint8 {
	var out []uint8
	for a := range o.N {
		for b := range o.N {
			out = append(out, order.Standing(o, a, b))
		}
	}
	return out
}

// P5.3: Close and Reduce change no standing, and Reduce leaves no arc that is needless.
func TestClosures(t *testing.T) {
	for _, o := range wides(104, 60, 10) {
		closed := must(t, "Close", of(order.Close(o)))
		want(t, "the standings of Close", standings(closed), standings(o))
		want(t, "the neighbours of Close", closed.Near, o.Near)
		wants(t, "Close of Close", of(order.Close(closed)), closed, api.OK)
		reduced, e := order.Reduce(o)
		if e != api.OK {
			continue
		}
		want(t, "the standings of Reduce", standings(reduced), standings(o))
		want(t, "the neighbours of Reduce", reduced.Near, o.Near)
		wants(t, "Close of Reduce", of(order.Close(reduced)), closed, api.OK)
		wants(t, "Reduce of Close", of(order.Reduce(closed)), reduced, api.OK)
		for i := range reduced.Arcs {
			fewer := problem(o.N, slices.Delete(slices.Clone(reduced.Arcs), i, i+1), o.Near)
			want(t, "Close of Reduce without an arc", same(must(t, "Close", of(order.Close(fewer))), closed), false)
		}
	}
}

// P5.4: Rank and Nth invert each other, and arcs make orders fewer.
func TestCounting(t *testing.T) {
	d := &dice{105}
	for _, o := range wides(106, 150, 12) {
		count := must(t, "Count", of(order.Count(o)))
		l, e := order.First(o)
		want(t, "there are orders", count > 0, e == api.OK)
		for _, arc := range d.pairs(o.N, func(a, b int) bool { return d.roll(12) == 0 }) {
			more := must(t, "Join", of(order.Join(o, problem(o.N, []api.Pair{arc}, nil))))
			if n := must(t, "Count", of(order.Count(more))); n > count {
				t.Errorf("%d orders of %v with %v, %d without", n, o, arc, count)
			}
		}
		if count == 0 {
			continue
		}
		wants(t, "Nth of 0", of(order.Nth(o, 0)), l, api.OK)
		last := l
		for _, k := range p(d.roll(count), d.roll(count), count-1) {
			l := must(t, "Nth", of(order.Nth(o, k)))
			wants(t, "CheckOrder of Nth", of(order.CheckOrder(o, l)), true, api.OK)
			wants(t, "Rank of Nth", of(order.Rank(o, l)), k, api.OK)
			last = l
		}
		wants(t, "Nth of Rank", of(order.Nth(o, must(t, "Rank", of(order.Rank(o, last))))), last, api.OK)
		wants(t, "Nth of Count", of(order.Nth(o, count)), nil, api.ErrArg)
	}
}

// P5.5: as many free patches as chains.
func TestFreeAndChains(t *testing.T) {
	for _, o := range wides(107, 300, 24) {
		free, e := order.Free(o)
		chains, f := order.Chains(o)
		want(t, "the errors", e, f)
		want(t, "CheckFree of Free and Chains", order.CheckFree(o, free, chains), e == api.OK)
		want(t, "as many", len(free), len(chains))
		for _, l := range chains {
			for i := range l {
				for _, before := range l[:i] {
					want(t, "Standing within a chain", order.Standing(o, before, l[i]), api.FreeBefore)
				}
			}
		}
		for i := range free {
			for _, other := range free[:i] {
				want(t, "Standing of free patches", order.Standing(o, other, free[i]), api.FreeNone)
			}
		}
	}
}

// P5.6: no circle without Least, and one without any fewer arcs.
func TestFewestArcs(t *testing.T) {
	for _, o := range wides(108, 60, 7) {
		least, e := order.Least(o)
		if len(o.Arcs) > 16 {
			wants(t, "Least", of(least, e), nil, api.ErrLimit)
			continue
		}
		want(t, "the error", e, api.OK)
		want(t, "there is a circle without Least", circleOf(problem(o.N, without(o.Arcs, least), nil)), found{})
		if len(o.Arcs) > 11 {
			continue
		}
		for _, l := range sublists(o.Arcs) {
			if len(l) < len(least) {
				want(t, "there is a circle without fewer arcs", circleOf(problem(o.N, without(o.Arcs, l), nil)).is, true)
			}
		}
	}
}

// keptDays returns all lists of n days below a last one that are kept.
func (x model) keptDays(dry, last int) [][]int {
	lists := [][]int{nil}
	for range x.N {
		var longer [][]int
		for _, l := range lists {
			for day := range last {
				longer = append(longer, slices.Concat(l, []int{day}))
			}
		}
		lists = longer
	}
	return slices.DeleteFunc(lists, func(days []int) bool { return !x.isKept(dry, days) })
}

// orderOf returns the patches in the order of their days.
func orderOf(days []int) []int {
	l := patches(len(days))
	slices.SortFunc(l, func(a, b int) int { return days[a] - days[b] })
	return l
}

// P5.7 (T4): of all days that are kept none is earlier, and none end before those of Wait.
func TestEarliestDays(t *testing.T) {
	for i, x := range models(109, 60, 4) {
		if len(x.orders) == 0 || x.N == 0 {
			continue
		}
		dry := i % 3
		wait := must(t, "Wait", of(order.Wait(x.Order, dry)))
		wants(t, "CheckOrder of Wait", of(order.CheckOrder(x.Order, wait.Order)), true, api.OK)
		wants(t, "CheckDays of Wait", of(order.CheckDays(x.Order, dry, wait.Days)), true, api.OK)
		wants(t, "Days of Wait", of(order.Days(x.Order, dry, wait.Order)), wait.Days, api.OK)
		for _, days := range x.keptDays(dry, 8) {
			wants(t, "CheckDays", of(order.CheckDays(x.Order, dry, days)), true, api.OK)
			earliest := must(t, "Days", of(order.Days(x.Order, dry, orderOf(days))))
			for a, day := range days {
				if day < earliest[a] {
					t.Errorf("%v with %d: %v has an earlier day than %v", x.Order, dry, days, earliest)
				}
			}
			want(t, "the end of Wait", slices.Max(days) >= slices.Max(wait.Days), true)
		}
	}
	for _, o := range wides(110, 100, 24) {
		l, e := order.First(o)
		if e == api.OK {
			days := must(t, "Days", of(order.Days(o, 30, l)))
			wants(t, "CheckDays of Days", of(order.CheckDays(o, 30, days)), true, api.OK)
			want(t, "the order of Days", orderOf(days), l)
		}
	}
}

// P5.8: the last day is the sum of the days between the patches of the reasons.
func TestSumOfReasons(t *testing.T) {
	for i, o := range wides(111, 200, 24) {
		l, e := order.First(o)
		if e != api.OK || o.N == 0 {
			continue
		}
		dry := i % 31
		days := must(t, "Days", of(order.Days(o, dry, l)))
		reasons := must(t, "Reasons", of(order.Reasons(o, dry, l)))
		sum, next := 0, l[o.N-1]
		for j, x := range reasons {
			want(t, "the patch of a reason", x.Patch, next)
			want(t, "the last reason is the first day", x.Kind == api.ReasonFirst, j == len(reasons)-1)
			next = x.From
			switch x.Kind {
			case api.ReasonDay:
				sum++
			case api.ReasonNear:
				sum += dry + 1
			default:
				want(t, "the last reason", x, api.Reason{Patch: x.Patch, From: -1})
				want(t, "its day", days[x.Patch], 0)
			}
		}
		want(t, "the sum of the days", sum, slices.Max(days))
	}
}

// lastDay returns when Wait ends, or more than any day if there is a circle.
func lastDay(t *testing.T, o api.Order, dry int) int {
	s, e := order.Wait(o, dry)
	switch {
	case e == api.ErrCircle:
		return huge
	case e != api.OK:
		t.Fatalf("Wait of %v: error %d", o, e)
	case o.N == 0:
		return -1
	}
	return slices.Max(s.Days)
}

// P5.9: Wait with more to wait for.
func TestWaitForMore(t *testing.T) {
	d := &dice{112}
	for range 120 {
		n, dry := d.roll(7), d.roll(30)
		o, q := d.order(n), d.order(n)
		both := must(t, "Join", of(order.Join(o, q)))
		end := lastDay(t, o, dry)
		for _, more := range []api.Order{both, must(t, "Join", of(order.Join(o, problem(n, nil, q.Near)))), must(t, "Join", of(order.Join(o, problem(n, q.Arcs, nil))))} {
			want(t, "more arcs or neighbours end earlier", lastDay(t, more, dry) < end, false)
		}
		want(t, "a greater dry ends earlier", lastDay(t, o, dry+1) < end, false)
	}
}

// P5.9: joins, and the restriction to all patches.
func TestJoins(t *testing.T) {
	d := &dice{113}
	for range 200 {
		n := d.roll(25)
		o, q := d.order(n), d.order(n)
		both := must(t, "Join", of(order.Join(o, q)))
		want(t, "Check of Join", order.Check(both), api.OK)
		wants(t, "Join the other way", of(order.Join(q, o)), both, api.OK)
		wants(t, "Join with itself", of(order.Join(o, o)), o, api.OK)
		wants(t, "Join of Join", of(order.Join(both, q)), both, api.OK)
		wants(t, "Restrict to all patches", of(order.Restrict(o, patches(n))), o, api.OK)
		for _, x := range []struct{ all, one, other []api.Pair }{{both.Arcs, o.Arcs, q.Arcs}, {both.Near, o.Near, q.Near}} {
			want(t, "the pairs of both", len(without(x.all, slices.Concat(x.one, x.other)))+len(without(x.one, x.all))+len(without(x.other, x.all)), 0)
		}
	}
}
