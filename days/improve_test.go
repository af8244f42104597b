package days_test

import (
	"slices"
	"testing"

	"giornata/api"
	"giornata/days"
)

// normal returns the normal form of a division.
func normal(d api.Division) api.Division {
	var out api.Division
	for _, patch := range d.Patches {
		out.Patches = append(out.Patches, slices.Sorted(slices.Values(patch)))
	}
	slices.SortFunc(out.Patches, slices.Compare)
	return out
}

// better is Better by the words of the chapter.
func (x model) better(d api.Division) improved {
	d = normal(d)
	cost := x.cost(d)
	for cell := range x.s.Cells {
		for to, patch := range d.Patches {
			if slices.Contains(patch, cell) {
				continue
			}
			var next api.Division
			for i, patch := range d.Patches {
				patch = without(patch, p(cell))
				if i == to {
					patch = append(patch, cell)
				}
				if len(patch) > 0 {
					next.Patches = append(next.Patches, patch)
				}
			}
			if compareCosts(x.cost(next), cost) < 0 && x.isRight(next) {
				return improved{normal(next), true}
			}
		}
	}
	return improved{d, false}
}

// improve is Improve by the words of the chapter.
func (x model) improve(d api.Division) api.Division {
	for {
		next := x.better(d)
		if d = next.d; !next.is {
			return d
		}
	}
}

// D14: the first move that leads to less cost.
func TestBetter(t *testing.T) {
	s, l := chapterSheet(), chapterLimits()
	for _, x := range []struct {
		name string
		d    api.Division
		want improved
	}{
		{"the example", division(p(0), p(1), p(2, 3)), improved{division(p(0, 1), p(2, 3)), true}},
		{"patches in another order", division(p(3, 2), p(1), p(0)), improved{division(p(0, 1), p(2, 3)), true}},
		{"cells for themselves", singles(4), improved{division(p(0, 1), p(2), p(3)), true}},
		{"a least division", division(p(3, 2), p(1, 0)), improved{division(p(0, 1), p(2, 3)), false}},
		{"a cell that goes to a patch behind", division(p(3), p(2, 1, 0)), improved{division(p(0, 1), p(2, 3)), true}},
	} {
		wants(t, "Better: "+x.name, betterOf(s, l, x.d), x.want, api.OK)
	}
	wants(t, "Better of nothing", betterOf(api.Sheet{}, l, division()), improved{}, api.OK)
	for _, d := range []api.Division{division(p(0, 3), p(1), p(2)), division(p(1, 3), p(0), p(2)), division(p(0, 1, 2, 3))} {
		wants(t, "Better of a division that is not right", betterOf(s, l, d), improved{}, api.ErrArg)
		wants(t, "Improve of a division that is not right", of(days.Improve(s, l, d)), api.Division{}, api.ErrArg)
	}
	// A cell cannot be moved if its old patch falls apart.
	wants(t, "Better of a chain", betterOf(chain(3), limits(3, 0, 1), division(p(0, 1, 2))), improved{division(p(0, 1, 2)), false}, api.OK)
	apart := chain(4)
	apart.Seams = []api.Seam{{A: 0, B: 1, Price: 1}, {A: 1, B: 2, Price: 1}, {A: 1, B: 3, Price: 9}}
	wants(t, "Better of a patch that would fall apart", betterOf(apart, limits(3, 0, 1), division(p(0, 1, 2), p(3))), improved{division(p(0, 1, 2), p(3)), false}, api.OK)
	// A move that makes the seam longer is good if it saves a day.
	wants(t, "Better by a day", betterOf(chain(3), limits(2, 0, 1), division(p(0), p(1), p(2))), improved{division(p(0, 1), p(2)), true}, api.OK)
	// The same cost is not less.
	wants(t, "Better by nothing", betterOf(chain(3), limits(2, 0, 1), division(p(0, 1), p(2))), improved{division(p(0, 1), p(2)), false}, api.OK)
}

// D14, D15, P4.6: compared with the words of the chapter.
func TestImproveOfModels(t *testing.T) {
	d := &dice{13}
	steps := 0
	for range 60 {
		x := model{s: d.sheet(d.roll(25)), l: d.limits()}
		x.l.Stages = append(x.l.Stages, api.Stage{To: 40})
		x.l.Minutes += 50
		div := normal(singles(len(x.s.Cells)))
		// Some moves at random, as long as the division stays right.
		for range d.roll(30) {
			if next := d.moved(div, len(x.s.Cells)); x.isRight(next) {
				div = next
			}
		}
		next := x.better(div)
		wants(t, "Better", betterOf(x.s, x.l, div), next, api.OK)
		last := x.improve(div)
		wants(t, "Improve", of(days.Improve(x.s, x.l, div)), last, api.OK)
		wants(t, "Better of what Improve returns", betterOf(x.s, x.l, last), improved{last, false}, api.OK)
		if compareCosts(x.cost(last), x.cost(div)) > 0 || !x.isRight(last) {
			t.Errorf("Improve returns %v", last)
		}
		if next.is && !same(next.d, last) {
			steps++
		}
	}
	if steps < 20 {
		t.Errorf("only %d divisions are improved by more than one step", steps)
	}
}

// moved returns a division with a cell moved to another patch, in any order.
func (d *dice) moved(div api.Division, n int) api.Division {
	if n == 0 {
		return div
	}
	cell, to := d.roll(n), d.roll(len(div.Patches))
	var out api.Division
	for i, patch := range div.Patches {
		patch = without(patch, p(cell))
		if i == to {
			patch = slices.Insert(patch, d.roll(len(patch)+1), cell)
		}
		if len(patch) > 0 {
			out.Patches = slices.Insert(out.Patches, d.roll(len(out.Patches)+1), patch)
		}
	}
	return out
}

// D15: the examples, and 24 cells.
func TestImprove(t *testing.T) {
	s, l := chapterSheet(), chapterLimits()
	wants(t, "Improve", of(days.Improve(s, l, division(p(3), p(2), p(1), p(0)))), division(p(0, 1), p(2, 3)), api.OK)
	wants(t, "Improve of nothing", of(days.Improve(api.Sheet{}, l, division())), division(), api.OK)
	wants(t, "Improve of a chain", of(days.Improve(chain(24), limits(24, 0, 1), singles(24))), division(cells(0, 24)), api.OK)
}
