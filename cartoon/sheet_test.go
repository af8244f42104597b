package cartoon_test

import (
	"slices"
	"testing"

	"giornata/api"
	"giornata/cartoon"
)

// plan returns a sheet with three cells, whose seams between the first one and the others are there.
func plan() api.Sheet {
	return api.Sheet{
		Cells: []api.Cell{
			{Faces: []int{1, 4}, Work: 10, Low: 0, High: 5, Colours: []string{"ochre", "lime"}},
			{Faces: []int{2}, Work: 20, Low: 3, High: 9, Colours: []string{"umber"}},
			{Faces: []int{3, 5, 100}, Work: 40, Low: 1, High: 2, Colours: []string{"lime", "azurite", "och", "ochre-a"}},
		},
		Seams: []api.Seam{{A: 0, B: 1, Price: 7, Upper: api.UpA}, {A: 0, B: 2, Upper: api.UpBoth}},
	}
}

func clonedSheet(s api.Sheet) api.Sheet {
	out := api.Sheet{Cells: slices.Clone(s.Cells), Seams: slices.Clone(s.Seams)}
	for i := range out.Cells {
		out.Cells[i].Faces = slices.Clone(out.Cells[i].Faces)
		out.Cells[i].Colours = slices.Clone(out.Cells[i].Colours)
	}
	return out
}

// celled returns a sheet of n cells without seams.
func celled(n int) api.Sheet {
	var s api.Sheet
	for i := range n {
		s.Cells = append(s.Cells, api.Cell{Faces: []int{i + 1}, Work: 1, High: 1})
	}
	return s
}

func withColours(n int) func(s *api.Sheet) {
	return func(s *api.Sheet) {
		s.Cells[0].Colours = nil
		for i := range n {
			s.Cells[0].Colours = append(s.Cells[0].Colours, numbered("c", i))
		}
	}
}

func faced(l ...int) func(s *api.Sheet) { return func(s *api.Sheet) { s.Cells[2].Faces = l } }

func seamed(l ...api.Seam) func(s *api.Sheet) { return func(s *api.Sheet) { s.Seams = l } }

type sheetCheck struct {
	name   string
	change func(s *api.Sheet)
	want   api.Errno
}

var sheetChecks = []sheetCheck{
	{"no change", func(s *api.Sheet) {}, api.OK},
	{"nothing", func(s *api.Sheet) { *s = api.Sheet{} }, api.OK},
	{"24 cells", func(s *api.Sheet) { *s = celled(24) }, api.OK},
	{"25 cells", func(s *api.Sheet) { *s = celled(25) }, api.ErrLimit},
	{"25 cells, one of them without work", func(s *api.Sheet) { *s = celled(25); s.Cells[0].Work = 0 }, api.ErrLimit},
	{"no faces", faced(), api.ErrArg},
	{"one face", faced(3), api.OK},
	{"the face 0", faced(0, 3), api.ErrArg},
	{"a face below 0", faced(-1, 3), api.ErrArg},
	{"the face 101", faced(3, 101), api.ErrArg},
	{"any faces", faced(tiny, huge), api.ErrArg},
	{"a face twice", faced(3, 3), api.ErrArg},
	{"faces that descend", faced(5, 3), api.ErrArg},
	{"a face of a cell before", faced(3, 4), api.ErrArg},
	{"no work", func(s *api.Sheet) { s.Cells[1].Work = 0 }, api.ErrArg},
	{"the work 1", func(s *api.Sheet) { s.Cells[1].Work = 1 }, api.OK},
	{"the work 100000", func(s *api.Sheet) { s.Cells[1].Work = 100000 }, api.OK},
	{"the work 100001", func(s *api.Sheet) { s.Cells[1].Work = 100001 }, api.ErrArg},
	{"a cell below 0", func(s *api.Sheet) { s.Cells[1].Low = -1 }, api.ErrArg},
	{"a cell without height", func(s *api.Sheet) { s.Cells[1].Low = 9 }, api.ErrArg},
	{"a cell upside down", func(s *api.Sheet) { s.Cells[1].Low = 10 }, api.ErrArg},
	{"a cell of the height 1", func(s *api.Sheet) { s.Cells[1].Low = 8 }, api.OK},
	{"a cell as high as may be", func(s *api.Sheet) { s.Cells[1].High = 10000 }, api.OK},
	{"a cell that is too high", func(s *api.Sheet) { s.Cells[1].High = 10001 }, api.ErrArg},
	{"no colours", withColours(0), api.OK},
	{"40 colours", withColours(40), api.OK},
	{"41 colours", withColours(41), api.ErrArg},
	{"a colour twice", func(s *api.Sheet) { s.Cells[2].Colours[3] = "lime" }, api.ErrArg},
	{"a colour that is no name", func(s *api.Sheet) { s.Cells[2].Colours[3] = "Lime" }, api.ErrArg},
	{"no seams", seamed(), api.OK},
	{"all seams", seamed(api.Seam{B: 1}, api.Seam{B: 2}, api.Seam{A: 1, B: 2}), api.OK},
	{"a seam twice", seamed(api.Seam{B: 1}, api.Seam{B: 1}), api.ErrArg},
	{"seams that descend by B", seamed(api.Seam{B: 2}, api.Seam{B: 1}), api.ErrArg},
	{"seams that descend by A", seamed(api.Seam{A: 1, B: 2}, api.Seam{B: 2}), api.ErrArg},
	{"a seam with itself", seamed(api.Seam{A: 1, B: 1}), api.ErrArg},
	{"a seam the other way", seamed(api.Seam{A: 1, B: 0}), api.ErrArg},
	{"a seam from below 0", seamed(api.Seam{A: -1, B: 0}), api.ErrArg},
	{"a seam to no cell", seamed(api.Seam{A: 1, B: 3}), api.ErrArg},
	{"any seam", seamed(api.Seam{A: tiny, B: huge}), api.ErrArg},
	{"a price below 0", seamed(api.Seam{B: 1, Price: -1}), api.ErrArg},
	{"the greatest price", seamed(api.Seam{B: 1, Price: 10000000000}), api.OK},
	{"a greater price", seamed(api.Seam{B: 1, Price: 10000000001}), api.ErrArg},
	{"the upper one of 3", seamed(api.Seam{B: 1, Upper: 3}), api.OK},
	{"the upper one of 4", seamed(api.Seam{B: 1, Upper: 4}), api.ErrArg},
	{"a seam without cells", func(s *api.Sheet) { *s = api.Sheet{Seams: []api.Seam{{B: 1}}} }, api.ErrArg},
}

// C8: the errors; C9: the other functions have them too.
func TestCheckSheet(t *testing.T) {
	for _, x := range sheetChecks {
		s := plan()
		x.change(&s)
		want(t, "CheckSheet with "+x.name, cartoon.CheckSheet(s), x.want)
		if x.want == api.OK {
			continue
		}
		wants(t, "Colours with "+x.name, of(cartoon.Colours(s, []int{-1})), nil, x.want)
		wants(t, "Uses with "+x.name, of(cartoon.Uses(s)), nil, x.want)
		seam, ok := cartoon.SeamOf(s, 0, 1)
		want(t, "SeamOf with "+x.name, seam, api.Seam{})
		want(t, "SeamOf with "+x.name, ok, false)
	}
}

// C9: the seam between two cells.
func TestSeamOf(t *testing.T) {
	s := plan()
	for _, x := range []struct {
		a, b int
		want api.Seam
	}{{0, 1, s.Seams[0]}, {1, 0, s.Seams[0]}, {0, 2, s.Seams[1]}, {2, 0, s.Seams[1]}, {1, 2, api.Seam{}}, {2, 1, api.Seam{}}, {0, 0, api.Seam{}}, {1, 1, api.Seam{}},
		{-1, 0, api.Seam{}}, {0, 3, api.Seam{}}, {3, 0, api.Seam{}}, {tiny, huge, api.Seam{}}, {huge, 0, api.Seam{}}, {0, tiny, api.Seam{}}} {
		seam, ok := cartoon.SeamOf(s, x.a, x.b)
		want(t, "SeamOf", seam, x.want)
		want(t, "SeamOf", ok, x.want != api.Seam{})
	}
	if _, ok := cartoon.SeamOf(api.Sheet{}, 0, 1); ok {
		t.Error("SeamOf without cells")
	}
	for _, x := range drawings(t, 21, 30) {
		s := sheetOf(t, x.c)
		for a := range len(s.Cells) {
			for b := range len(s.Cells) {
				i := slices.IndexFunc(s.Seams, func(x api.Seam) bool { return x.A == min(a, b) && x.B == max(a, b) })
				seam, ok := cartoon.SeamOf(s, a, b)
				if ok != (i >= 0) || ok && seam != s.Seams[i] {
					t.Errorf("SeamOf(%d, %d): %v, %v", a, b, seam, ok)
				}
			}
		}
	}
}

// C9: the colours of some cells, each at its first place.
func TestColours(t *testing.T) {
	s := plan()
	for _, x := range []struct {
		patch []int
		want  []string
		e     api.Errno
	}{
		{nil, nil, api.OK},
		{[]int{0}, []string{"ochre", "lime"}, api.OK},
		{[]int{0, 2, 1}, []string{"ochre", "lime", "azurite", "och", "ochre-a", "umber"}, api.OK},
		{[]int{2, 0}, []string{"lime", "azurite", "och", "ochre-a", "ochre"}, api.OK},
		{[]int{3}, nil, api.ErrArg},
		{[]int{-1}, nil, api.ErrArg},
		{[]int{huge}, nil, api.ErrArg},
		{[]int{tiny}, nil, api.ErrArg},
		{[]int{1, 0, 1}, nil, api.ErrTwice},
		{[]int{1, 1, 3}, nil, api.ErrTwice},
		{[]int{1, 3, 1}, nil, api.ErrArg},
	} {
		wants(t, "Colours", of(cartoon.Colours(s, x.patch)), x.want, x.e)
	}
	wants(t, "Colours without cells", of(cartoon.Colours(api.Sheet{}, nil)), nil, api.OK)
	wants(t, "Colours without cells", of(cartoon.Colours(api.Sheet{}, []int{0})), nil, api.ErrArg)
}

// C9: the work of the cells that have each colour.
func TestUses(t *testing.T) {
	wants(t, "Uses", of(cartoon.Uses(plan())), []api.Use{{Colour: "azurite", Work: 40}, {Colour: "lime", Work: 50}, {Colour: "och", Work: 40},
		{Colour: "ochre", Work: 10}, {Colour: "ochre-a", Work: 40}, {Colour: "umber", Work: 20}}, api.OK)
	wants(t, "Uses of the chapter's sheet", of(cartoon.Uses(sheetOf(t, spelt()))),
		[]api.Use{{Colour: "azurite", Work: 30}, {Colour: "lime", Work: 210}, {Colour: "ochre", Work: 180}, {Colour: "umber", Work: 180}}, api.OK)
	wants(t, "Uses without cells", of(cartoon.Uses(api.Sheet{})), nil, api.OK)
	wants(t, "Uses without colours", of(cartoon.Uses(celled(3))), nil, api.OK)
	s := celled(4)
	for i, colour := range []string{"b1", "b", "b-", "ba"} { // a hyphen sorts before a digit, and a digit before a letter
		s.Cells[i].Colours = []string{colour}
	}
	wants(t, "Uses in order", of(cartoon.Uses(s)), []api.Use{{Colour: "b", Work: 1}, {Colour: "b-", Work: 1}, {Colour: "b1", Work: 1}, {Colour: "ba", Work: 1}}, api.OK)
}
