package days_test

import (
	"slices"
	"testing"

	"giornata/api"
	"giornata/cartoon"
	"giornata/days"
)

// wide is a wall of 12 cells that can be divided.
type wide struct {
	s     api.Sheet
	l     api.Limits
	least api.Division
	table api.Table
	cost  api.Cost
}

// wides returns walls of 12 cells in rows, and those with any seams.
func wides(t *testing.T, seed uint64, count int) []wide {
	t.Helper()
	d := &dice{seed}
	var out []wide
	for i := range count {
		x := wide{s: d.grid(4, 3), l: limits(50+d.roll(100), 0, 20, 10, 30)}
		if i%3 == 2 {
			x = wide{s: d.sheet(12), l: limits(60+d.roll(60), 0, 40)}
		}
		var e api.Errno
		x.least, x.table, e = days.Least(x.s, x.l)
		if e != api.OK {
			t.Fatalf("Least of %v with %v: error %d", x.s, x.l, e)
		}
		x.cost, _ = days.CostOf(x.s, x.least)
		out = append(out, x)
	}
	return out
}

// P4.2: what Least returns for 12 cells is right, is accepted, and costs no more than what is found by improving.
func TestLeastOfTwelve(t *testing.T) {
	d := &dice{21}
	for _, x := range wides(t, 22, 12) {
		wants(t, "Check", checkOf(x.s, x.l, x.least), judged{-1, api.FitOk}, api.OK)
		wants(t, "CheckLeast", of(days.CheckLeast(x.s, x.l, x.least, x.table)), true, api.OK)
		wants(t, "Best", of(days.Best(x.s, x.l, x.least)), true, api.OK)
		wants(t, "Improve", of(days.Improve(x.s, x.l, x.least)), x.least, api.OK)
		front, e := days.Frontier(x.s, x.l)
		if e != api.OK || front[0] != x.cost {
			t.Errorf("Frontier: %v, %d, want %v first", front, e, x.cost)
		}
		apart, _ := days.Apart(x.s, x.l)
		wants(t, "CheckApart", of(days.CheckApart(x.s, x.l, apart)), true, api.OK)
		m, div := model{s: x.s, l: x.l}, singles(12)
		for range 60 {
			if next := d.moved(div, 12); m.isRight(next) {
				div = next
			}
			cost := m.cost(div)
			is := compareCosts(cost, x.cost) == 0
			if compareCosts(cost, x.cost) < 0 || len(div.Patches) < len(apart) {
				t.Errorf("%v costs less than %v", div, x.least)
			}
			wants(t, "Best", of(days.Best(x.s, x.l, div)), is, api.OK)
			wants(t, "CheckLeast", of(days.CheckLeast(x.s, x.l, div, x.table)), is, api.OK)
			above := slices.ContainsFunc(front, func(c api.Cost) bool { return c.Days <= cost.Days && c.Seam <= cost.Seam })
			want(t, "some cost of Frontier is not greater", above, true)
		}
	}
}

// P4.3: connected parts of patches that fit, and parts of least divisions.
func TestParts(t *testing.T) {
	for _, x := range models(23, 60) {
		for _, patch := range x.fitting {
			for _, part := range sublists(patch) {
				if len(part) > 0 && x.joined(part) {
					wants(t, "Fits of a part", of(days.Fits(x.s, x.l, part)), api.FitOk, api.OK)
				}
			}
		}
		least, _, e := days.Least(x.s, x.l)
		if e != api.OK {
			continue
		}
		for number := range 1 << len(least.Patches) {
			var some []int
			var others [][]int
			for i, patch := range least.Patches {
				if number>>i&1 == 1 {
					some = append(some, patch...)
				} else {
					others = append(others, patch)
				}
			}
			slices.Sort(some)
			for _, d := range divisions(some) {
				if d.Patches = append(d.Patches, others...); x.isRight(d) && compareCosts(x.cost(d), x.cost(least)) < 0 {
					t.Errorf("%v costs less than %v", d, least)
				}
			}
		}
	}
}

// P4.4: bounds that need no search.
func TestBounds(t *testing.T) {
	for _, x := range models(24, 100) {
		apart, e := days.Apart(x.s, x.l)
		wants(t, "CheckApart of Apart", of(days.CheckApart(x.s, x.l, apart)), true, e)
		for _, d := range x.right {
			if cost, _ := days.CostOf(x.s, d); cost.Days < len(apart) || cost.Days*x.l.Minutes < x.work(x.cells()) {
				t.Errorf("%v has fewer patches than %v", d, apart)
			}
		}
	}
}

// P4.5: with more minutes, one more stage, or stages that reach farther, the least cost is not greater.
func TestMoreLimits(t *testing.T) {
	d := &dice{25}
	for _, x := range wides(t, 26, 9) {
		for range 6 {
			l := api.Limits{Minutes: x.l.Minutes, Stages: slices.Clone(x.l.Stages)}
			switch d.roll(3) {
			case 0:
				l.Minutes += d.roll(200)
			case 1:
				from := d.roll(40)
				l.Stages = slices.Insert(l.Stages, d.roll(len(l.Stages)+1), api.Stage{From: from, To: from + d.roll(40)})
			case 2:
				i := d.roll(len(l.Stages))
				l.Stages[i] = api.Stage{From: l.Stages[i].From / (1 + d.roll(3)), To: l.Stages[i].To + d.roll(30)}
			}
			least, _, e := days.Least(x.s, l)
			if cost, _ := days.CostOf(x.s, least); e != api.OK || compareCosts(cost, x.cost) > 0 {
				t.Errorf("with %v %v, error %d; with %v %v", l, cost, e, x.l, x.cost)
			}
		}
	}
}

// P4.8: renumbering the cells changes neither the least cost nor the number of least divisions.
func TestRenumbered(t *testing.T) {
	d := &dice{27}
	for _, x := range wides(t, 28, 9) {
		names := d.shuffled(len(x.s.Cells))
		s := api.Sheet{Cells: make([]api.Cell, len(names))}
		for i, name := range names {
			s.Cells[name] = x.s.Cells[i]
		}
		for _, seam := range x.s.Seams {
			a, b := names[seam.A], names[seam.B]
			s.Seams = append(s.Seams, api.Seam{A: min(a, b), B: max(a, b), Price: seam.Price})
		}
		slices.SortFunc(s.Seams, func(p, q api.Seam) int { return 100*(p.A-q.A) + p.B - q.B })
		least, _, e := days.Least(s, x.l)
		wants(t, "Least of renumbered cells", of(least, e), least, api.OK)
		wants(t, "the cost of renumbered cells", of(days.CostOf(s, least)), x.cost, api.OK)
		count, e := days.Count(x.s, x.l)
		wants(t, "Count of renumbered cells", of(days.Count(s, x.l)), count, e)
	}
}

// source is a cartoon with seam lines and a never line.
const source = `wall 0 0 40 0 40 30 0 30
seam left 2 10 0 10 30
seam right 3 30 0 30 30
never nose 10 15 30 15
seam brow 1 30 20 40 20
seam step 5 0 10 10 10
ground sky 30 5 5 azurite lime
ground cloud 40 5 15 lime
ground cheek 60 20 5 ochre lime
ground hair 50 20 20 umber
ground hand 70 35 5 ochre
ground halo 20 35 25 ochre
`

// compiled returns the sheet of a cartoon that has no error.
func compiled(t *testing.T, c api.Cartoon) api.Sheet {
	t.Helper()
	s, e := cartoon.Compile(c)
	if e != api.OK {
		t.Fatalf("Compile: error %d", e)
	}
	return s
}

// T2, T3: no seam between patches runs along a never line; moving or mirroring a cartoon does not change the least cost.
func TestCartoons(t *testing.T) {
	c, fault := cartoon.Parse(source)
	want(t, "Parse", fault, api.Fault{})
	moved, _ := cartoon.Move(c, 7, 0)
	raised, _ := cartoon.Move(c, 0, 9)
	mirrored, _ := cartoon.Mirror(c, 40)
	for _, l := range []api.Limits{limits(110, 0, 30), limits(130, 0, 30), limits(150, 0, 30), limits(200, 0, 30), limits(270, 0, 30)} {
		s := compiled(t, c)
		d, _, e := days.Least(s, l)
		want(t, "the error of Least", e, api.OK)
		cost, _ := days.CostOf(s, d)
		edges, e := cartoon.Along(c, d.Patches)
		want(t, "the error of Along", e, api.OK)
		wants(t, "Crossed", of(cartoon.Crossed(c, edges)), nil, api.OK)
		for _, other := range []api.Cartoon{moved, mirrored} {
			s := compiled(t, other)
			d, _, e := days.Least(s, l)
			want(t, "the error of Least", e, api.OK)
			wants(t, "the least cost", of(days.CostOf(s, d)), cost, api.OK)
		}
		above := compiled(t, raised)
		d, _, e = days.Least(above, limits(l.Minutes, 9, 39))
		want(t, "the error of Least", e, api.OK)
		wants(t, "the least cost", of(days.CostOf(above, d)), cost, api.OK)
	}
}
