package crew_test

import (
	"slices"
	"strings"
	"testing"

	"giornata/api"
	"giornata/crew"
)

// coloured returns a task with colours.
func coloured(colours ...string) api.Task {
	x := task(100, 1)
	x.Colours = colours
	return x
}

// flawedTasks are tasks that are not valid, and why.
var flawedTasks = []struct {
	name string
	l    []api.Task
	e    api.Errno
}{
	{"13 tasks", row(13), api.ErrLimit},
	{"41 colours", append(row(3), coloured(slices.Repeat([]string{"a"}, 41)...)), api.ErrLimit},
	{"no work", []api.Task{task(0, 1)}, api.ErrArg},
	{"work below 0", []api.Task{task(tiny, 1)}, api.ErrArg},
	{"work of 10001", append(row(11), task(10001, 1)), api.ErrArg},
	{"no need", []api.Task{task(1, 0)}, api.ErrArg},
	{"a need of 10", []api.Task{task(1, 10)}, api.ErrArg},
	{"a task after itself", []api.Task{task(1, 1, 0)}, api.ErrArg},
	{"a task after a later one", []api.Task{task(1, 1), task(1, 1, 2), task(1, 1)}, api.ErrArg},
	{"a task after one below 0", append(row(2), task(1, 1, -1, 0)), api.ErrArg},
	{"a task after one twice", append(row(2), task(1, 1, 1, 1)), api.ErrArg},
	{"a task after descending ones", append(row(2), task(1, 1, 1, 0)), api.ErrArg},
	{"a colour of 25 bytes", []api.Task{coloured("a", longest+"a")}, api.ErrArg},
	{"41 colours behind a task without work", []api.Task{task(0, 1), coloured(make([]string, 41)...)}, api.ErrLimit},
	{"13 tasks without work", make([]api.Task, 13), api.ErrLimit},
}

// G1: which tasks are valid.
func TestCheckTasks(t *testing.T) {
	most := row(12)
	for i := range most {
		most[i] = api.Task{Work: 10000, Need: 9, After: from(0, i), Colours: slices.Repeat([]string{strings.Repeat("\xff", 24)}, 40)}
	}
	for _, l := range [][]api.Task{nil, row(1), row(12), most, chapterTasks(), {coloured("", "No name", "a", "a", "\n")}, {task(1, 9)}} {
		want(t, "CheckTasks", crew.CheckTasks(l), api.OK)
	}
	for _, x := range flawedTasks {
		want(t, "CheckTasks of "+x.name, crew.CheckTasks(x.l), x.e)
	}
}

// G4: days that suit a task.
func TestFits(t *testing.T) {
	y, l := chapterYard(), chapterTasks()
	for _, x := range []struct {
		task, day int
		want      bool
	}{
		{0, 2, true}, {0, 1, false}, {0, 3, false}, {0, 4, true}, {1, 2, true}, {2, 2, false}, {2, 4, false}, {2, 5, true}, {0, 29, true}, {0, 30, false}, {0, 360, false},
		{-1, 2, false}, {3, 2, false}, {huge, 5, false}, {tiny, 5, false}, {0, -1, false}, {0, huge, false}, {0, tiny, false},
	} {
		want(t, "Fits", crew.Fits(y, l, x.task, x.day), x.want)
	}
	for _, x := range []struct {
		name string
		make func(y *api.Yard, l []api.Task)
		want bool
	}{
		{"as it is", func(*api.Yard, []api.Task) {}, true},
		{"as much work as minutes", func(_ *api.Yard, l []api.Task) { l[0].Work = 500 }, true},
		{"more work than minutes", func(_ *api.Yard, l []api.Task) { l[0].Work = 501 }, false},
		{"less light", func(y *api.Yard, _ []api.Task) { y.Seasons[0].Light = 399 }, false},
		{"as much need as skill", func(_ *api.Yard, l []api.Task) { l[0].Need = 4 }, true},
		{"more need than skill", func(_ *api.Yard, l []api.Task) { l[0].Need = 5 }, false},
		{"a master who came later", func(y *api.Yard, _ []api.Task) { y.Masters[0].From = 3 }, false},
		{"a master who left", func(y *api.Yard, _ []api.Task) { y.Masters[0].Until = 2 }, false},
		{"no master", func(y *api.Yard, _ []api.Task) { y.Masters = nil }, false},
		{"no pit", func(y *api.Yard, _ []api.Task) { y.Pits = nil }, false},
		{"lime that is too young", func(y *api.Yard, _ []api.Task) { y.Pits[0].Age = 3 }, false},
		{"a closed day", func(y *api.Yard, _ []api.Task) { y.Closed = p(2) }, false},
		{"tasks that are not valid", func(_ *api.Yard, l []api.Task) { l[2].Need = 0 }, false},
	} {
		y, l := chapterYard(), chapterTasks()
		x.make(&y, l)
		want(t, "Fits with "+x.name, crew.Fits(y, l, 0, 2), x.want)
	}
	d := &dice{4}
	for range 300 {
		begin := offsets[d.roll(len(offsets))]
		m := model{d.yard(begin), d.tasks(4)}
		for i := range m.l {
			for day := begin - 2; day < begin+20; day++ {
				want(t, "Fits", crew.Fits(m.Yard, m.l, i, day), m.suits(i, day))
			}
		}
	}
}

// G4: lists of days that suit a task.
func TestDays(t *testing.T) {
	y, l := chapterYard(), chapterTasks()
	for _, x := range []struct {
		task, from, until int
		want              []int
		e                 api.Errno
	}{
		{0, 0, 8, p(2, 4, 5, 6, 7), api.OK}, {2, 0, 8, p(5, 6, 7), api.OK}, {2, 5, 6, p(5), api.OK}, {2, 5, 5, nil, api.OK}, {0, 28, 100001, p(28, 29), api.OK}, {0, 100001, 100001, nil, api.OK}, {0, 3, 4, nil, api.OK},
		{-1, 0, 8, nil, api.ErrNone}, {3, 0, 8, nil, api.ErrNone}, {3, 8, 0, nil, api.ErrNone}, {huge, 0, 1, nil, api.ErrNone},
		{0, 8, 7, nil, api.ErrArg}, {0, -1, 8, nil, api.ErrArg}, {0, 0, 100002, nil, api.ErrArg}, {0, tiny, huge, nil, api.ErrArg}, {0, 100002, 100002, nil, api.ErrArg},
	} {
		wants(t, "Days", of(crew.Days(y, l, x.task, x.from, x.until)), x.want, x.e)
	}
	all, e := crew.Days(brightYard(), row(1), 0, 0, 100001)
	wants(t, "Days of a bright yard", of(len(all), all[0], all[100000], e), 100001, 0, 100000, api.OK)
	d := &dice{5}
	for range 300 {
		begin := offsets[d.roll(len(offsets))]
		m := model{d.yard(begin), d.tasks(4)}
		i, until := d.roll(4), min(begin+10+d.roll(10), 100001)
		var days []int
		for day := begin; day < until; day++ {
			if m.suits(i, day) {
				days = append(days, day)
			}
		}
		wants(t, "Days", of(crew.Days(m.Yard, m.l, i, begin, until)), days, api.OK)
	}
}

// cell returns a cell with a face.
func cell(face, work int, colours ...string) api.Cell {
	return api.Cell{Faces: p(face), Work: work, High: 10, Colours: colours}
}

// fourCells returns a sheet with the seams 0 1, 0 2, 1 3.
func fourCells() api.Sheet {
	return api.Sheet{
		Cells: []api.Cell{cell(1, 10, "lime", "ochre"), cell(2, 20, "umber", "lime"), cell(3, 30), cell(4, 40, "ochre", "azurite")},
		Seams: []api.Seam{{A: 0, B: 1, Price: 5}, {A: 0, B: 2}, {A: 1, B: 3, Price: 7, Upper: api.UpA}},
	}
}

// cells returns a sheet of n cells, without seams.
func cells(n int) api.Sheet {
	var s api.Sheet
	for i := range n {
		s.Cells = append(s.Cells, cell(i+1, 1))
	}
	return s
}

func division(patches ...[]int) api.Division { return api.Division{Patches: patches} }

// singles returns a division of n cells into patches of one cell.
func singles(n int) api.Division {
	var d api.Division
	for i := range n {
		d.Patches = append(d.Patches, p(i))
	}
	return d
}

// G11: the tasks of divisions.
func TestTasks(t *testing.T) {
	made := func(work, need int, after []int, colours ...string) api.Task {
		return api.Task{Work: work, Need: need, After: after, Colours: colours}
	}
	for _, x := range []struct {
		d     api.Division
		order []int
		need  int
		want  []api.Task
	}{
		{singles(4), p(0, 1, 2, 3), 1, []api.Task{made(10, 1, nil, "lime", "ochre"), made(20, 1, p(0), "umber", "lime"), made(30, 1, p(0)), made(40, 1, p(1), "ochre", "azurite")}},
		{singles(4), p(3, 2, 1, 0), 9, []api.Task{made(40, 9, nil, "ochre", "azurite"), made(30, 9, nil), made(20, 9, p(0), "umber", "lime"), made(10, 9, p(1, 2), "lime", "ochre")}},
		{division(p(3, 0), p(2), p(1)), p(2, 1, 0), 3, []api.Task{made(20, 3, nil, "umber", "lime"), made(30, 3, nil), made(50, 3, p(0, 1), "ochre", "azurite", "lime")}},
		{division(p(3, 0), p(2), p(1)), p(0, 2, 1), 3, []api.Task{made(50, 3, nil, "ochre", "azurite", "lime"), made(20, 3, p(0), "umber", "lime"), made(30, 3, p(0))}},
		{division(p(0, 1), p(2, 3)), p(0, 1), 2, []api.Task{made(30, 2, nil, "lime", "ochre", "umber"), made(70, 2, p(0), "ochre", "azurite")}},
		{division(p(1, 0, 2, 3)), p(0), 2, []api.Task{made(100, 2, nil, "umber", "lime", "ochre", "azurite")}},
	} {
		wants(t, "Tasks", of(crew.Tasks(fourCells(), x.d, x.order, x.need)), x.want, api.OK)
	}
	wants(t, "Tasks of no cells", of(crew.Tasks(api.Sheet{}, division(), nil, 1)), nil, api.OK)
	l, e := crew.Tasks(cells(12), singles(12), from(0, 12), 1)
	wants(t, "Tasks of 12 patches", of(len(l), l[11], e), 12, task(1, 1), api.OK)
	l, e = crew.Tasks(cells(24), division(from(0, 13), from(13, 11)), p(1, 0), 1)
	wants(t, "Tasks of 24 cells", of(l, e), []api.Task{task(11, 1), task(13, 1)}, api.OK)
}

// many returns different colours.
func many(n int) []string {
	var out []string
	for i := range n {
		out = append(out, "x"+string(rune('a'+i/26))+string(rune('a'+i%26)))
	}
	return out
}

// G11: the errors of Tasks, in their order.
func TestTasksErrors(t *testing.T) {
	loop, order := fourCells(), from(0, 4)
	loop.Seams[0].B = 0
	heavy, motley := fourCells(), fourCells()
	heavy.Cells[0].Work, heavy.Cells[1].Work = 9999, 2
	motley.Cells[0].Colours, motley.Cells[1].Colours = many(41)[:40], many(41)[40:]
	both := motley
	both.Cells = slices.Clone(motley.Cells)
	both.Cells[2].Work = 10001
	for _, x := range []struct {
		name  string
		s     api.Sheet
		d     api.Division
		order []int
		need  int
		want  api.Errno
	}{
		{"a seam of a cell with itself", loop, singles(4), order, 1, api.ErrArg},
		{"25 cells", cells(25), singles(25), nil, 0, api.ErrLimit},
		{"a seam of a cell with itself and 13 patches", api.Sheet{Cells: cells(13).Cells, Seams: make([]api.Seam, 1)}, singles(13), from(0, 13), 1, api.ErrArg},
		{"a cell twice", fourCells(), division(p(0), p(1), p(2), p(3, 0)), order, 1, api.ErrArg},
		{"a cell twice in a patch", fourCells(), division(p(0, 0), p(1), p(2), p(3)), order, 1, api.ErrArg},
		{"a cell in no patch", fourCells(), division(p(0), p(1), p(2)), from(0, 3), 1, api.ErrArg},
		{"no patches", fourCells(), division(), nil, 1, api.ErrArg},
		{"an empty patch", fourCells(), division(p(0), nil, p(1, 2), p(3)), order, 1, api.ErrArg},
		{"no cell", fourCells(), division(p(0), p(4), p(1, 2), p(3)), order, 1, api.ErrArg},
		{"a cell below 0", fourCells(), division(p(0, 1, 2, 3), p(-1)), p(0, 1), 1, api.ErrArg},
		{"a patch of no cells", api.Sheet{}, division(nil), p(0), 1, api.ErrArg},
		{"13 patches", cells(13), singles(13), from(0, 13), 1, api.ErrLimit},
		{"13 patches and no order", cells(13), singles(13), nil, 0, api.ErrLimit},
		{"13 patches and an empty one", cells(13), division(append(singles(13).Patches, nil)...), nil, 1, api.ErrArg},
		{"a short order", fourCells(), singles(4), p(0, 1, 2), 1, api.ErrArg},
		{"a long order", fourCells(), singles(4), p(0, 1, 2, 3, 3), 1, api.ErrArg},
		{"an order with a patch twice", fourCells(), singles(4), p(0, 1, 2, 1), 1, api.ErrArg},
		{"an order with no patch", fourCells(), singles(4), p(0, 1, 2, 4), 1, api.ErrArg},
		{"an order with a patch below 0", fourCells(), singles(4), p(0, -1, 2, 3), 1, api.ErrArg},
		{"an order with any numbers", fourCells(), singles(4), p(huge, tiny, 2, 3), 1, api.ErrArg},
		{"an order of nothing", api.Sheet{}, division(), p(0), 1, api.ErrArg},
		{"no need", fourCells(), singles(4), order, 0, api.ErrArg},
		{"a need of 10", fourCells(), singles(4), order, 10, api.ErrArg},
		{"no need for nothing", api.Sheet{}, division(), nil, 0, api.ErrArg},
		{"as much work as may be", heavy, division(p(0), p(1), p(2), p(3)), order, 1, api.OK},
		{"too much work", heavy, division(p(0, 1), p(2), p(3)), p(2, 1, 0), 1, api.ErrArg},
		{"as many colours as may be", motley, singles(4), order, 1, api.OK},
		{"too many colours", motley, division(p(0, 1), p(2), p(3)), p(2, 1, 0), 1, api.ErrLimit},
		{"too many colours and too much work", both, division(p(0, 1), p(2), p(3)), p(2, 1, 0), 1, api.ErrLimit},
		{"too many colours and no need", motley, division(p(0, 1), p(2), p(3)), p(2, 1, 0), 0, api.ErrArg},
		{"too many colours and no order", motley, division(p(0, 1), p(2), p(3)), p(2, 1, 1), 1, api.ErrArg},
	} {
		l, e := crew.Tasks(x.s, x.d, x.order, x.need)
		want(t, "Tasks with "+x.name, e, x.want)
		want(t, "Tasks with "+x.name+", if there are some", len(l) > 0, e == api.OK)
	}
}

// G11: tasks of any divisions, by the words of the chapter.
func TestAnyTasks(t *testing.T) {
	d := &dice{6}
	for range 200 {
		s := cells(1 + d.roll(8))
		var div api.Division
		for i := range s.Cells {
			s.Cells[i].Work = 1 + d.roll(50)
			if at := d.roll(len(div.Patches) + 1); at < len(div.Patches) {
				div.Patches[at] = append(div.Patches[at], i)
			} else {
				div.Patches = append(div.Patches, p(i))
			}
			for j := i + 1; j < len(s.Cells); j++ {
				if d.roll(3) == 0 {
					s.Seams = append(s.Seams, api.Seam{A: i, B: j})
				}
			}
		}
		var order []int
		for i := range div.Patches {
			order = slices.Insert(order, d.roll(i+1), i)
		}
		l, e := crew.Tasks(s, div, order, 4)
		want(t, "Tasks", of(len(l), e), of(len(order), api.OK))
		for i, x := range l {
			work := 0
			for _, c := range div.Patches[order[i]] {
				work += s.Cells[c].Work
			}
			wants(t, "a task", of(x.Work, x.Need), work, 4)
			for before := range i {
				near := slices.ContainsFunc(s.Seams, func(x api.Seam) bool {
					a, b := div.Patches[order[i]], div.Patches[order[before]]
					return slices.Contains(a, x.A) && slices.Contains(b, x.B) || slices.Contains(b, x.A) && slices.Contains(a, x.B)
				})
				want(t, "After", slices.Contains(x.After, before), near)
			}
		}
	}
}
