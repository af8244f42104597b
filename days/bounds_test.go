package days_test

import (
	"slices"
	"testing"

	"giornata/api"
	"giornata/days"
)

// together reports whether two of some cells are in one patch that fits.
func (x model) together(set []int) bool {
	return slices.ContainsFunc(x.fitting, func(patch []int) bool { return len(set)-len(without(set, patch)) > 1 })
}

// D13: the first of the greatest sets of cells of which no two fit together.
func TestApart(t *testing.T) {
	wants(t, "Apart", of(days.Apart(chapterSheet(), chapterLimits())), p(0, 3), api.OK)
	wants(t, "Apart of nothing", of(days.Apart(api.Sheet{}, alone())), nil, api.OK)
	wants(t, "Apart of cells for themselves", of(days.Apart(chain(12), alone())), cells(0, 12), api.OK)
	wants(t, "Apart of cells that fit in no day", of(days.Apart(chain(12), limits(1, 1, 1))), cells(0, 12), api.OK)
	wants(t, "Apart of one patch", of(days.Apart(chain(12), limits(12, 0, 1))), p(0), api.OK)
	wants(t, "Apart in a chain", of(days.Apart(chain(12), limits(2, 0, 1))), p(0, 2, 4, 6, 8, 10), api.OK)
	star := chain(4) // the last cell meets all others, and does not fit with any
	star.Seams = []api.Seam{{A: 0, B: 1}, {A: 0, B: 2}, {A: 0, B: 3}}
	wants(t, "Apart around a cell", of(days.Apart(star, limits(2, 0, 1))), p(1, 2, 3), api.OK)
	for _, x := range models(11, 150) {
		var best []int
		for _, set := range sublists(x.cells()) {
			if len(set) > len(best) && !x.together(set) {
				best = set
			}
		}
		wants(t, "Apart", of(days.Apart(x.s, x.l)), best, api.OK)
	}
}

// D13: whether no two of some cells fit together.
func TestCheckApart(t *testing.T) {
	s, l := chapterSheet(), chapterLimits()
	for _, x := range []struct {
		cells []int
		want  bool
	}{{nil, true}, {p(2), true}, {p(3, 0), true}, {p(1, 3), true}, {p(0, 1), false}, {p(1, 2), false}, {p(0, 3, 2), false}} {
		wants(t, "CheckApart", of(days.CheckApart(s, l, x.cells)), x.want, api.OK)
	}
	for _, x := range models(12, 60) {
		for _, set := range sublists(x.cells()) {
			wants(t, "CheckApart", of(days.CheckApart(x.s, x.l, set)), !x.together(set), api.OK)
		}
	}
}
