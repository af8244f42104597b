package days_test

import (
	"slices"
	"testing"

	"giornata/api"
	"giornata/days"
)

// grid returns a sheet of cells in rows, where each one is the neighbour of those beside, above and below it, at any prices.
func (d *dice) grid(width, height int) api.Sheet {
	var s api.Sheet
	for i := range width * height {
		row := i / width
		s.Cells = append(s.Cells, api.Cell{Faces: []int{i + 1}, Work: 10 + d.roll(30), Low: 10 * row, High: 10*row + 10})
		if i%width+1 < width {
			s.Seams = append(s.Seams, api.Seam{A: i, B: i + 1, Price: d.roll(20)})
		}
		if row+1 < height {
			s.Seams = append(s.Seams, api.Seam{A: i, B: i + width, Price: d.roll(20), Upper: api.UpB})
		}
	}
	return s
}

// D9: the examples, the least divisions of models, and the table.
func TestLeast(t *testing.T) {
	d, table, e := days.Least(chapterSheet(), chapterLimits())
	wants(t, "Least", of(d, e), division(p(0, 1), p(2, 3)), api.OK)
	want(t, "the table", table, modelOf(chapterSheet(), chapterLimits()).table())
	want(t, "the last value", table.Values[15], api.Cost{Days: 2, Seam: 14})
	wants(t, "Least of nothing", leastOf(api.Sheet{}, alone()), found{division(), api.Table{Values: []api.Cost{{}}}}, api.OK)
	right := 0
	for _, x := range models(5, 200) {
		if len(x.right) == 0 {
			wants(t, "Least without a right division", leastOf(x.s, x.l), found{}, api.ErrNever)
			continue
		}
		right++
		wants(t, "Least", leastOf(x.s, x.l), found{x.least()[0], x.table()}, api.OK)
	}
	if right < 50 {
		t.Errorf("only %d walls can be divided", right)
	}
}

// D9: the first of many least divisions.
func TestFirstLeast(t *testing.T) {
	for _, x := range []struct {
		name    string
		n       int
		minutes int
		want    api.Division
	}{
		// A list comes before its continuations, so the first patch is as short as it may be.
		{"three cells in two days", 3, 2, division(p(0), p(1, 2))},
		{"five cells in two days", 5, 4, division(p(0), p(1, 2, 3, 4))},
		{"12 cells in two days", 12, 11, division(p(0), cells(1, 11))},
		{"12 cells in one day", 12, 12, division(cells(0, 12))},
		{"12 cells in 12 days", 12, 1, singles(12)},
		{"12 cells in three days", 12, 5, division(p(0, 1), cells(2, 5), cells(7, 5))},
	} {
		d, _, e := days.Least(chain(x.n), limits(x.minutes, 0, 1))
		wants(t, "Least: "+x.name, of(d, e), x.want, api.OK)
	}
	free := chain(3) // all seams are free, so that only the order of lists decides
	free.Seams = []api.Seam{{A: 0, B: 1}, {A: 0, B: 2}, {A: 1, B: 2}}
	d, _, e := days.Least(free, limits(2, 0, 1))
	wants(t, "Least of a triangle", of(d, e), division(p(0), p(1, 2)), api.OK)
	four := chain(4)
	four.Seams = []api.Seam{{A: 0, B: 1}, {A: 0, B: 2}, {A: 0, B: 3}, {A: 1, B: 2}, {A: 1, B: 3}, {A: 2, B: 3}}
	d, _, e = days.Least(four, limits(2, 0, 1))
	wants(t, "Least of four cells", of(d, e), division(p(0, 1), p(2, 3)), api.OK)
}

// DOC.md, example 4: three cells of 60 minutes.
func TestThreeCells(t *testing.T) {
	s := chain(3)
	for i := range s.Cells {
		s.Cells[i].Work = 60
	}
	for _, x := range []struct {
		minutes, days int
		seams         []api.Seam
	}{{100, 3, s.Seams}, {120, 2, s.Seams}, {120, 2, s.Seams[:1]}, {120, 3, nil}, {180, 1, s.Seams}} {
		s.Seams = x.seams
		d, _, e := days.Least(s, limits(x.minutes, 0, 1))
		if e != api.OK || len(d.Patches) != x.days {
			t.Errorf("three cells in days of %d minutes: %v, %d", x.minutes, d, e)
		}
	}
}

// D9, D11, D12: a cell that fits in no day.
func TestNever(t *testing.T) {
	for _, l := range []api.Limits{limits(299, 0, 20), limits(400, 0, 10), limits(400, 10, 20), limits(400, 0, 10, 11, 20)} {
		s := chapterSheet()
		wants(t, "Least", leastOf(s, l), found{}, api.ErrNever)
		wants(t, "Together", of(days.Together(s, l)), nil, api.ErrNever)
		wants(t, "Frontier", of(days.Frontier(s, l)), nil, api.ErrNever)
		wants(t, "Count", of(days.Count(s, l)), 0, api.OK)
		wants(t, "Best", of(days.Best(s, l, singles(4))), false, api.OK)
		wants(t, "CheckLeast", of(days.CheckLeast(s, l, singles(4), modelOf(s, chapterLimits()).table())), false, api.OK)
	}
}

// accepts is CheckLeast by the words of the chapter.
func (x model) accepts(d api.Division, t api.Table) bool {
	if !x.isRight(d) || len(t.Values) != 1<<len(x.s.Cells) || t.Values[0] != (api.Cost{}) {
		return false
	}
	for number, value := range t.Values {
		if value.Days < 0 || value.Days > 1000000 || value.Seam < 0 || value.Seam > 10000000000000 {
			return false
		}
		set := x.numbered(number)
		for _, patch := range x.fitting {
			if number == 0 || patch[0] != set[0] || len(without(patch, set)) > 0 {
				continue
			}
			bound, cost := t.Values[number-numberOf(patch)], x.doubled(patch)
			if compareCosts(value, api.Cost{Days: bound.Days + cost.Days, Seam: bound.Seam + cost.Seam}) > 0 {
				return false
			}
		}
	}
	cost := x.cost(d)
	return t.Values[len(t.Values)-1] == api.Cost{Days: cost.Days, Seam: 2 * cost.Seam}
}

// tables are tables that differ from a good one in one value.
func (d *dice) tables(good api.Table) []api.Table {
	out := []api.Table{good}
	for range 12 {
		t := api.Table{Values: slices.Clone(good.Values)}
		value := &t.Values[d.roll(len(t.Values))]
		switch d.roll(4) {
		case 0:
			value.Days += d.roll(3) - 1
		case 1:
			value.Seam += d.roll(5) - 2
		case 2:
			*value = api.Cost{}
		case 3:
			value.Days, value.Seam = value.Days-1, value.Seam+d.roll(3)*1000
		}
		out = append(out, t)
	}
	return out
}

// D10: what a table has to be.
func TestCheckLeast(t *testing.T) {
	s, l := chapterSheet(), chapterLimits()
	d, good, _ := days.Least(s, l)
	for _, x := range []struct {
		name   string
		change func(d *api.Division, t *api.Table)
		want   bool
	}{
		{"no change", func(d *api.Division, t *api.Table) {}, true},
		{"the division in another order", func(d *api.Division, t *api.Table) { d.Patches = [][]int{p(3, 2), p(1, 0)} }, true},
		{"a division that costs more", func(d *api.Division, t *api.Table) { d.Patches = [][]int{p(0, 1, 2), p(3)} }, false},
		{"a division that is not right", func(d *api.Division, t *api.Table) { d.Patches = [][]int{p(0, 2), p(1, 3)} }, false},
		{"a value too few", func(d *api.Division, t *api.Table) { t.Values = t.Values[:15] }, false},
		{"a value too many", func(d *api.Division, t *api.Table) { t.Values = append(t.Values, api.Cost{}) }, false},
		{"no values", func(d *api.Division, t *api.Table) { t.Values = nil }, false},
		{"a value below 0", func(d *api.Division, t *api.Table) { t.Values[5].Seam = -1 }, false},
		{"a value of days below 0", func(d *api.Division, t *api.Table) { t.Values[5].Days = -1 }, false},
		{"too many days", func(d *api.Division, t *api.Table) { t.Values[10].Days = 1000001 }, false},
		{"too much seam", func(d *api.Division, t *api.Table) { t.Values[10].Seam = 10000000000001 }, false},
		{"no days for no cells", func(d *api.Division, t *api.Table) { t.Values[0].Days = 1 }, false},
		{"no seam for no cells", func(d *api.Division, t *api.Table) { t.Values[0].Seam = 1 }, false},
		{"a value of a set of one cell that is too great", func(d *api.Division, t *api.Table) { t.Values[1].Seam++ }, false},
		{"a value of a set of one cell that is less", func(d *api.Division, t *api.Table) { t.Values[1].Seam-- }, true},
		{"all values that the division does not need are 0", func(d *api.Division, t *api.Table) { t.Values[5] = api.Cost{} }, true},
		{"the last value is less", func(d *api.Division, t *api.Table) { t.Values[15].Seam -= 2 }, false},
		{"the last value is not doubled", func(d *api.Division, t *api.Table) { t.Values[15].Seam /= 2 }, false},
		{"the last value is more", func(d *api.Division, t *api.Table) { t.Values[15].Seam += 8 }, false},
	} {
		d, table := api.Division{Patches: slices.Clone(d.Patches)}, api.Table{Values: slices.Clone(good.Values)}
		x.change(&d, &table)
		wants(t, "CheckLeast: "+x.name, of(days.CheckLeast(s, l, d, table)), x.want, api.OK)
		want(t, "the model: "+x.name, modelOf(s, l).accepts(d, table), x.want)
	}
	wants(t, "CheckLeast of nothing", of(days.CheckLeast(api.Sheet{}, l, division(), api.Table{Values: []api.Cost{{}}})), true, api.OK)
	wants(t, "CheckLeast of nothing with a value", of(days.CheckLeast(api.Sheet{}, l, division(), api.Table{Values: []api.Cost{{Days: 1}}})), false, api.OK)
	wants(t, "CheckLeast of nothing without values", of(days.CheckLeast(api.Sheet{}, l, division(), api.Table{})), false, api.OK)
}

// D10: the greatest values, where no patch binds them.
func TestGreatestValues(t *testing.T) {
	s := chain(2)
	most := api.Table{Values: []api.Cost{{}, {Days: 0, Seam: 10000000000000}, {Days: 1, Seam: 1}, {Days: 2, Seam: 2}}}
	wants(t, "CheckLeast with the greatest seam", of(days.CheckLeast(s, alone(), singles(2), most)), true, api.OK)
	most.Values[1].Seam++
	wants(t, "CheckLeast with a greater seam", of(days.CheckLeast(s, alone(), singles(2), most)), false, api.OK)
}

// D10, P4.2: CheckLeast accepts what Least returns, and least divisions alone, whatever the table.
func TestCheckLeastOfModels(t *testing.T) {
	d := &dice{6}
	for _, x := range models(7, 60) {
		good, least := x.table(), x.least()
		for _, div := range x.whole {
			isLeast := slices.ContainsFunc(least, func(other api.Division) bool { return same(div, other) })
			wants(t, "CheckLeast with the table of Least", of(days.CheckLeast(x.s, x.l, div, good)), isLeast, api.OK)
		}
		for range 10 {
			div := d.division(len(x.s.Cells))
			if len(least) > 0 && d.roll(3) > 0 {
				div = least[d.roll(len(least))]
			}
			for _, table := range d.tables(good) {
				accepted := x.accepts(div, table)
				wants(t, "CheckLeast", of(days.CheckLeast(x.s, x.l, div, table)), accepted, api.OK)
				if accepted && x.cost(div) != x.cost(least[0]) {
					t.Errorf("a division that is not a least one is accepted: %v", div)
				}
			}
		}
	}
}

// D11: whether a division is a least one, and how many there are.
func TestBestAndCount(t *testing.T) {
	s, l := chapterSheet(), chapterLimits()
	wants(t, "Best of a right division", of(days.Best(s, l, division(p(0, 1, 2), p(3)))), false, api.OK)
	wants(t, "Best in any order", of(days.Best(s, l, division(p(3, 2), p(1, 0)))), true, api.OK)
	wants(t, "Best of a division that is not right", of(days.Best(s, l, division(p(0, 1, 2, 3)))), false, api.OK)
	wants(t, "Best of nothing", of(days.Best(api.Sheet{}, l, division())), true, api.OK)
	wants(t, "Count", of(days.Count(s, l)), 1, api.OK)
	wants(t, "Count of nothing", of(days.Count(api.Sheet{}, l)), 1, api.OK)
	wants(t, "Count of a chain in two days", of(days.Count(chain(12), limits(11, 0, 1))), 11, api.OK)
	wants(t, "Count of a chain in three days", of(days.Count(chain(12), limits(10, 0, 1))), 9, api.OK)
	wants(t, "Count of a chain in one day", of(days.Count(chain(12), limits(12, 0, 1))), 1, api.OK)
	free := chain(12) // of 12 cells that all meet, any two make a patch: 11 * 9 * 7 * 5 * 3 ways
	free.Seams = nil
	for a := range 12 {
		for b := a + 1; b < 12; b++ {
			free.Seams = append(free.Seams, api.Seam{A: a, B: b})
		}
	}
	wants(t, "Count of pairs", of(days.Count(free, limits(2, 0, 1))), 10395, api.OK)
	for _, x := range models(8, 80) {
		least := x.least()
		wants(t, "Count", of(days.Count(x.s, x.l)), len(least), api.OK)
		for _, d := range x.whole {
			isLeast := slices.ContainsFunc(least, func(other api.Division) bool { return same(d, other) })
			wants(t, "Best", of(days.Best(x.s, x.l, d)), isLeast, api.OK)
		}
	}
}

// D12: the cells that are together in every least division.
func TestTogether(t *testing.T) {
	wants(t, "Together", of(days.Together(chapterSheet(), chapterLimits())), []api.Pair{{A: 0, B: 1}, {A: 2, B: 3}}, api.OK)
	wants(t, "Together of nothing", of(days.Together(api.Sheet{}, alone())), nil, api.OK)
	wants(t, "Together of cells for themselves", of(days.Together(chain(12), alone())), nil, api.OK)
	var pairs []api.Pair
	for a := range 12 {
		for b := a + 1; b < 12; b++ {
			pairs = append(pairs, api.Pair{A: a, B: b})
		}
	}
	wants(t, "Together of one patch", of(days.Together(chain(12), limits(12, 0, 1))), pairs, api.OK)
	for _, x := range models(9, 200) {
		if len(x.right) == 0 {
			continue
		}
		var pairs []api.Pair
		for a := range x.s.Cells {
			for b := a + 1; b < len(x.s.Cells); b++ {
				if !slices.ContainsFunc(x.least(), func(d api.Division) bool { return parts(d, a, b) }) {
					pairs = append(pairs, api.Pair{A: a, B: b})
				}
			}
		}
		wants(t, "Together", of(days.Together(x.s, x.l)), pairs, api.OK)
	}
}

// parts reports whether two cells are in different patches.
func parts(d api.Division, a, b int) bool {
	return slices.ContainsFunc(d.Patches, func(patch []int) bool { return slices.Contains(patch, a) != slices.Contains(patch, b) })
}

// chains returns models of chains of cells with any prices, of which a day suffices for two or three.
func chains(seed uint64, count int) []model {
	d := &dice{seed}
	var out []model
	for range count {
		s := chain(1 + d.roll(6))
		for i := range s.Seams {
			s.Seams[i].Price = d.roll(10)
		}
		out = append(out, modelOf(s, limits(2+d.roll(2), 0, 1)))
	}
	return out
}

// D12, P4.7: the costs of which none is better by days and by seam.
func TestFrontier(t *testing.T) {
	wants(t, "Frontier", of(days.Frontier(chapterSheet(), chapterLimits())), []api.Cost{{Days: 2, Seam: 7}}, api.OK)
	wants(t, "Frontier of nothing", of(days.Frontier(api.Sheet{}, alone())), []api.Cost{{}}, api.OK)
	wants(t, "Frontier of 12 patches", of(days.Frontier(chain(12), alone())), []api.Cost{{Days: 12, Seam: 11}}, api.OK)
	// Of two days one has to run through a dear seam; three days leave it whole.
	dear := chain(4)
	dear.Seams[0].Price, dear.Seams[1].Price, dear.Seams[2].Price = 1, 9, 1
	wants(t, "Frontier of a dear seam", of(days.Frontier(dear, limits(2, 0, 1))), []api.Cost{{Days: 2, Seam: 9}, {Days: 3, Seam: 2}}, api.OK)
	longer := 0
	for _, x := range append(models(10, 100), chains(11, 100)...) {
		if len(x.right) == 0 {
			continue
		}
		least := map[int]int{}
		for _, d := range x.right {
			cost := x.cost(d)
			if seam, is := least[cost.Days]; !is || cost.Seam < seam {
				least[cost.Days] = cost.Seam
			}
		}
		var front []api.Cost
		for k := range 7 {
			if seam, is := least[k]; is && (len(front) == 0 || seam < front[len(front)-1].Seam) {
				front = append(front, api.Cost{Days: k, Seam: seam})
			}
		}
		longer += len(front) / 2
		wants(t, "Frontier", of(days.Frontier(x.s, x.l)), front, api.OK)
		want(t, "the first cost", front[0], x.cost(x.least()[0]))
	}
	if longer < 10 {
		t.Errorf("only %d frontiers have more than one cost", longer)
	}
}
