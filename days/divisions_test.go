package days_test

import (
	"slices"
	"testing"

	"giornata/api"
	"giornata/days"
)

// D5: the normal form, and the errors.
func TestNormal(t *testing.T) {
	backwards := cells(0, 24)
	slices.Reverse(backwards)
	for _, x := range []struct {
		name    string
		d, want api.Division
		e       api.Errno
	}{
		{"nothing", division(), division(), api.OK},
		{"a normal division", division(p(0, 2), p(1)), division(p(0, 2), p(1)), api.OK},
		{"patches in any order", division(p(5), p(3, 1), p(2, 4, 0)), division(p(0, 2, 4), p(1, 3), p(5)), api.OK},
		{"patches by their first cells after sorting", division(p(2, 1), p(3, 0)), division(p(0, 3), p(1, 2)), api.OK},
		{"cells that no sheet has", division(p(huge, 1000), p(7)), division(p(7), p(1000, huge)), api.OK},
		{"24 cells", division(backwards), division(cells(0, 24)), api.OK},
		{"25 cells", division(cells(0, 12), cells(12, 13)), division(), api.ErrLimit},
		{"25 cells with other errors", division(nil, p(-1), cells(0, 24)), division(), api.ErrLimit},
		{"a cell below 0", division(p(0), p(1, -1)), division(), api.ErrArg},
		{"the least cell", division(p(tiny)), division(), api.ErrArg},
		{"an empty patch", division(p(0), nil, p(1)), division(), api.ErrArg},
		{"an empty patch alone", division(nil), division(), api.ErrArg},
		{"a cell twice in a patch", division(p(1, 2, 1)), division(), api.ErrTwice},
		{"a cell in two patches", division(p(1, 2), p(3, 2)), division(), api.ErrTwice},
		{"a cell twice before one below 0", division(p(1, 1), p(-1)), division(), api.ErrTwice},
		{"a cell twice before an empty patch", division(p(1, 1), nil), division(), api.ErrTwice},
		{"a cell below 0 before one twice", division(p(-1), p(1, 1)), division(), api.ErrArg},
		{"a cell below 0 twice", division(p(-1, -1)), division(), api.ErrArg},
	} {
		wants(t, "Normal of "+x.name, of(days.Normal(x.d)), x.want, x.e)
	}
}

// D6: the first patch that does not fit.
func TestCheck(t *testing.T) {
	s, l := chapterSheet(), chapterLimits()
	for _, x := range []struct {
		name string
		l    api.Limits
		d    api.Division
		want judged
	}{
		{"a right division", l, division(p(2, 3), p(1, 0)), judged{-1, api.FitOk}},
		{"patches of one cell", l, singles(4), judged{-1, api.FitOk}},
		{"the last patch is too much work", l, division(p(0), p(2), p(3, 1)), judged{2, api.FitWork}},
		{"the first patch is apart", l, division(p(3, 0), p(2), p(1)), judged{0, api.FitApart}},
		{"two patches do not fit", l, division(p(2, 1), p(3, 0)), judged{0, api.FitApart}},
		{"a patch out of reach before one that is too much work", limits(400, 0, 10, 10, 20), division(p(0, 2), p(1, 3)), judged{0, api.FitReach}},
		{"a patch behind a good one", limits(400, 0, 10, 10, 20), division(p(1), p(0, 2), p(3)), judged{1, api.FitReach}},
	} {
		wants(t, "Check: "+x.name, checkOf(s, x.l, x.d), x.want, api.OK)
	}
	wants(t, "Check of nothing", checkOf(api.Sheet{}, l, division()), judged{-1, api.FitOk}, api.OK)
	wants(t, "Check of 24 cells", checkOf(chain(24), limits(12, 0, 1), division(cells(12, 12), cells(0, 12))), judged{-1, api.FitOk}, api.OK)
	wants(t, "Check of 24 cells", checkOf(chain(24), limits(12, 0, 1), division(cells(13, 11), cells(0, 13))), judged{1, api.FitWork}, api.OK)
}

// D7: the seams between patches, and the cost.
func TestSeamsAndCost(t *testing.T) {
	s := chapterSheet()
	wants(t, "CostOf", of(days.CostOf(s, division(p(0, 1), p(2, 3)))), api.Cost{Days: 2, Seam: 7}, api.OK)
	wants(t, "Seams", of(days.Seams(s, division(p(3, 2), p(1, 0)))), p(1, 2), api.OK)
	wants(t, "CostOf one patch", of(days.CostOf(s, division(p(3, 2, 1, 0)))), api.Cost{Days: 1}, api.OK)
	wants(t, "Seams of one patch", of(days.Seams(s, division(p(3, 2, 1, 0)))), nil, api.OK)
	wants(t, "CostOf a division that is not right", of(days.CostOf(s, division(p(3, 0), p(1, 2)))), api.Cost{Days: 2, Seam: 19}, api.OK)
	wants(t, "CostOf nothing", of(days.CostOf(api.Sheet{}, division())), api.Cost{}, api.OK)
	wants(t, "Seams of nothing", of(days.Seams(api.Sheet{}, division())), nil, api.OK)
	dear := api.Sheet{Cells: chain(24).Cells}
	for a := range 24 {
		for b := a + 1; b < 24; b++ {
			dear.Seams = append(dear.Seams, api.Seam{A: a, B: b, Price: 10000000000})
		}
	}
	wants(t, "CostOf the dearest division", of(days.CostOf(dear, singles(24))), api.Cost{Days: 24, Seam: 2760000000000}, api.OK)
	for _, x := range models(3, 60) {
		for _, d := range x.whole {
			wants(t, "Seams", of(days.Seams(x.s, d)), x.between(d), api.OK)
			wants(t, "CostOf", of(days.CostOf(x.s, d)), x.cost(d), api.OK)
		}
	}
}

// D6 to D8: compared with the words of the chapter.
func TestDivisionsOfModels(t *testing.T) {
	d := &dice{4}
	for range 300 {
		x := model{s: d.sheet(d.roll(25)), l: d.limits()}
		div := d.division(len(x.s.Cells))
		at, why := -1, api.FitOk
		var pairs []api.Pair
		for i, patch := range div.Patches {
			if w := x.why(patch); at < 0 && w != api.FitOk {
				at, why = i, w
			}
			for j := i + 1; j < len(div.Patches); j++ {
				if x.why(slices.Concat(patch, div.Patches[j])) == api.FitOk {
					pairs = append(pairs, api.Pair{A: i, B: j})
				}
			}
		}
		wants(t, "Check", checkOf(x.s, x.l, div), judged{at, why}, api.OK)
		wants(t, "Seams", of(days.Seams(x.s, div)), x.between(div), api.OK)
		wants(t, "CostOf", of(days.CostOf(x.s, div)), x.cost(div), api.OK)
		wants(t, "Unions", of(days.Unions(x.s, x.l, div)), pairs, api.OK)
	}
}

// D8: the patches that fit together.
func TestUnions(t *testing.T) {
	s, l := chapterSheet(), chapterLimits()
	wants(t, "Unions", of(days.Unions(s, l, division(p(0), p(1), p(2, 3)))), []api.Pair{{A: 0, B: 1}}, api.OK)
	wants(t, "Unions in the order of the patches", of(days.Unions(s, l, division(p(2), p(3), p(0), p(1)))), []api.Pair{{A: 0, B: 1}, {A: 0, B: 2}, {A: 2, B: 3}}, api.OK)
	wants(t, "Unions of a patch that does not fit", of(days.Unions(s, l, division(p(1, 2), p(0), p(3)))), []api.Pair{{A: 0, B: 1}}, api.OK)
	wants(t, "Unions of one patch", of(days.Unions(s, l, division(p(0, 1, 2, 3)))), nil, api.OK)
	wants(t, "Unions of nothing", of(days.Unions(api.Sheet{}, l, division())), nil, api.OK)
	var pairs []api.Pair
	for i := range 23 {
		pairs = append(pairs, api.Pair{A: i, B: i + 1})
	}
	wants(t, "Unions of 24 cells", of(days.Unions(chain(24), limits(24, 0, 1), singles(24))), pairs, api.OK)
}
