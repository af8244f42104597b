package days_test

import (
	"slices"
	"testing"

	"giornata/api"
	"giornata/days"
)

// D1: valid limits, and what makes them invalid.
func TestCheckLimits(t *testing.T) {
	twenty := limits(1)
	for range 20 {
		twenty.Stages = append(twenty.Stages, api.Stage{})
	}
	many := limits(1)
	many.Stages = append(slices.Clone(twenty.Stages), api.Stage{})
	for _, x := range []struct {
		name string
		l    api.Limits
		want api.Errno
	}{
		{"the chapter's", chapterLimits(), api.OK},
		{"1 minute", limits(1, 0, 10), api.OK},
		{"10000 minutes", limits(10000, 0, 10), api.OK},
		{"no minutes", limits(0, 0, 10), api.ErrArg},
		{"10001 minutes", limits(10001, 0, 10), api.ErrArg},
		{"minutes below 0", limits(-1, 0, 10), api.ErrArg},
		{"the most minutes", limits(huge, 0, 10), api.ErrArg},
		{"no stages", limits(400), api.ErrArg},
		{"nothing", api.Limits{}, api.ErrArg},
		{"20 stages", twenty, api.OK},
		{"21 stages", many, api.ErrArg},
		{"a stage without height", limits(1, 7, 7), api.OK},
		{"a stage upside down", limits(1, 7, 6), api.ErrArg},
		{"a stage of the whole height", limits(1, 0, 10000), api.OK},
		{"a stage at the top", limits(1, 10000, 10000), api.OK},
		{"a stage that is too high", limits(1, 0, 10001), api.ErrArg},
		{"a stage far too high", limits(1, 10001, 10001), api.ErrArg},
		{"a stage from below 0", limits(1, -1, 10), api.ErrArg},
		{"a stage to below 0", limits(1, 0, -1), api.ErrArg},
		{"any stage", limits(1, tiny, huge), api.ErrArg},
		{"a bad stage behind a good one", limits(1, 0, 10, 11, 10), api.ErrArg},
	} {
		want(t, "CheckLimits with "+x.name, days.CheckLimits(x.l), x.want)
	}
}

// D2: the work of a patch.
func TestWork(t *testing.T) {
	s := chapterSheet()
	wants(t, "Work of no cells", of(days.Work(s, nil)), 0, api.OK)
	wants(t, "Work of one cell", of(days.Work(s, p(1))), 200, api.OK)
	wants(t, "Work of three cells", of(days.Work(s, p(3, 0, 1))), 600, api.OK)
	most := chain(24)
	for i := range most.Cells {
		most.Cells[i].Work = 100000
	}
	wants(t, "Work of 24 cells", of(days.Work(most, cells(0, 24))), 2400000, api.OK)
}

// D2: the stages that reach a patch.
func TestReach(t *testing.T) {
	s, l := chapterSheet(), chapterLimits()
	wants(t, "Reach of 0, 1", of(days.Reach(s, l, p(0, 1))), p(0, 2), api.OK)
	wants(t, "Reach of 2, 3", of(days.Reach(s, l, p(2, 3))), p(1, 2), api.OK)
	wants(t, "Reach of 0, 2", of(days.Reach(s, l, p(0, 2))), p(2), api.OK)
	wants(t, "Reach of no cells", of(days.Reach(s, limits(1, 3, 3, 0, 0, 10000, 10000), nil)), p(0, 1, 2), api.OK)
	wants(t, "Reach of a cell", of(days.Reach(s, limits(1, 9, 20, 10, 19, 10, 20, 11, 20, 0, 10000), p(2))), p(0, 2, 4), api.OK)
	wants(t, "Reach by none", of(days.Reach(s, limits(1, 0, 10), p(0, 2))), nil, api.OK)
}

// D2: whether the cells of a patch are connected by seams between them.
func TestJoined(t *testing.T) {
	s := chapterSheet()
	for _, x := range []struct {
		patch []int
		want  bool
	}{{nil, true}, {p(2), true}, {p(0, 1), true}, {p(1, 0), true}, {p(0, 3), false}, {p(1, 2), false}, {p(3, 0, 2), true}, {p(3, 1, 2, 0), true}, {p(0, 3, 1), true}} {
		wants(t, "Joined", of(days.Joined(s, x.patch)), x.want, api.OK)
	}
	long := chain(24)
	wants(t, "Joined of a chain", of(days.Joined(long, cells(0, 24))), true, api.OK)
	wants(t, "Joined of a chain without a cell", of(days.Joined(long, without(cells(0, 24), p(11)))), false, api.OK)
	wants(t, "Joined of cells without seams", of(days.Joined(api.Sheet{Cells: long.Cells}, p(0, 1))), false, api.OK)
	backwards := chain(3) // the least cell is reached by the greatest one alone
	backwards.Seams = []api.Seam{{A: 0, B: 2}, {A: 1, B: 2}}
	wants(t, "Joined by a cell behind", of(days.Joined(backwards, p(0, 1, 2))), true, api.OK)
	wants(t, "Joined without a cell behind", of(days.Joined(backwards, p(0, 1))), false, api.OK)
}

// D3: why a patch does not fit: the first condition that does not hold.
func TestFits(t *testing.T) {
	s, l := chapterSheet(), chapterLimits()
	for _, x := range []struct {
		name  string
		l     api.Limits
		patch []int
		want  uint8
	}{
		{"0, 3", l, p(0, 3), api.FitApart},
		{"1, 3", l, p(1, 3), api.FitWork},
		{"0, 1", l, p(0, 1), api.FitOk},
		{"none", l, nil, api.FitEmpty},
		{"0, 2 with one stage", limits(400, 0, 10), p(0, 2), api.FitReach},
		{"2, 3, with no minute to spare", l, p(3, 2), api.FitOk},
		{"2, 3, with a minute too little", limits(399, 0, 20), p(3, 2), api.FitWork},
		{"cells that are apart, out of reach and too much work", limits(1, 0, 0), p(0, 3), api.FitApart},
		{"cells that are out of reach and too much work", limits(1, 0, 0), p(0, 1), api.FitReach},
		{"none with anything", limits(1, 0, 0), nil, api.FitEmpty},
		{"cells that two stages reach, but none both", limits(400, 0, 10, 10, 20), p(0, 2), api.FitReach},
		{"cells with a stage that just reaches them", limits(400, 0, 10), p(0, 1), api.FitOk},
		{"cells with a stage that is too low", limits(400, 0, 9), p(0, 1), api.FitReach},
		{"cells with a stage that is too high", limits(400, 1, 10), p(0, 1), api.FitReach},
	} {
		wants(t, "Fits of "+x.name, of(days.Fits(s, x.l, x.patch)), x.want, api.OK)
	}
}

// D2, D3: compared with the words of the chapter.
func TestPatchesOfModels(t *testing.T) {
	d := &dice{1}
	for range 200 {
		x := model{s: d.sheet(d.roll(25)), l: d.limits()}
		n := len(x.s.Cells)
		patch := d.shuffled(n)[:d.roll(min(n, 5)+1)]
		wants(t, "Work", of(days.Work(x.s, patch)), x.work(patch), api.OK)
		wants(t, "Joined", of(days.Joined(x.s, patch)), x.joined(patch), api.OK)
		wants(t, "Fits", of(days.Fits(x.s, x.l, patch)), x.why(patch), api.OK)
		var stages []int
		for i, st := range x.l.Stages {
			if x.reaches(st, patch) {
				stages = append(stages, i)
			}
		}
		wants(t, "Reach", of(days.Reach(x.s, x.l, patch)), stages, api.OK)
	}
}

// D4: all patches that fit.
func TestPatches(t *testing.T) {
	wants(t, "Patches", of(days.Patches(chapterSheet(), chapterLimits())),
		[][]int{p(0), p(1), p(0, 1), p(2), p(0, 2), p(0, 1, 2), p(3), p(2, 3)}, api.OK)
	wants(t, "Patches of no cells", of(days.Patches(api.Sheet{}, alone())), nil, api.OK)
	wants(t, "Patches out of reach", of(days.Patches(chain(12), limits(1, 1, 2))), nil, api.OK)
	all, e := days.Patches(chain(12), limits(12, 0, 1))
	if e != api.OK || len(all) != 78 || !slices.Equal(all[77], cells(0, 12)) {
		t.Errorf("Patches of 12 cells: %v, %d", all, e)
	}
	for _, x := range models(2, 100) {
		patches := slices.Clone(x.fitting)
		slices.SortFunc(patches, func(a, b []int) int { return numberOf(a) - numberOf(b) })
		wants(t, "Patches", of(days.Patches(x.s, x.l)), patches, api.OK)
	}
}
