package cartoon_test

import (
	"slices"
	"testing"

	"giornata/api"
	"giornata/cartoon"
	"giornata/faces"
)

// slanted is a cartoon with lines that are not parallel to the axes: two seams that meet in the middle, at a price for each.
func slanted() api.Cartoon {
	return api.Cartoon{
		Wall: list(0, 0, 8, 0, 8, 8, 0, 8),
		Lines: []api.Line{
			{Name: "rise", Kind: api.LineSeam, Price: 3, Chain: list(0, 0, 4, 5, 8, 8)},
			{Name: "fall", Kind: api.LineSeam, Price: 10, Chain: list(0, 8, 4, 5)},
		},
		Grounds: []api.Ground{
			{Name: "top", At: pt(4, 7), Work: 1, Colours: []string{"a", "b"}},
			{Name: "west", At: pt(1, 4), Work: 2, Colours: []string{"b"}},
			{Name: "south", At: pt(6, 1), Work: 4},
		},
	}
}

// C4: each two neighbours of a chain, line by line.
func TestSegments(t *testing.T) {
	c := changed(func(c *api.Cartoon) { c.Lines[1].Chain = list(10, 15, 20, 15, 40, 15) })
	wants(t, "Segments", segmentsOf(c), owned{[]api.Seg{sg(10, 0, 10, 30), sg(10, 15, 20, 15), sg(20, 15, 40, 15), sg(20, 15, 20, 30)}, []int{0, 1, 1, 2}}, api.OK)
	wants(t, "Segments without lines", segmentsOf(api.Cartoon{Wall: list(0, 0, 4, 0, 4, 4)}), owned{}, api.OK)
	// Segments has no error of the map: these lines cross, and one leads to nowhere.
	c = api.Cartoon{Wall: list(0, 0, 0, 0, 0, 0), Lines: []api.Line{{Name: "a", Kind: api.LineSeam, Chain: list(2, 1, 2, 1, 9, 9)}}}
	wants(t, "Segments without a map", segmentsOf(c), owned{[]api.Seg{sg(2, 1, 2, 1), sg(2, 1, 9, 9)}, []int{0, 0}}, api.OK)
	many := changed(lined(50, 7))
	got := segmentsOf(many)
	if got.e != api.OK || len(got.value.segs) != 300 || got.value.lines[299] != 49 || got.value.lines[5] != 0 || got.value.lines[6] != 1 {
		t.Errorf("Segments of 300: error %d, %d segments", got.e, len(got.value.segs))
	}
}

// C5: the map of the wall and the segments.
func TestMap(t *testing.T) {
	for _, c := range []api.Cartoon{spelt(), slanted(), zigzag(99), changed(func(c *api.Cartoon) { c.Lines[0].Chain = list(10, 0, 10, 15, 10, 30) })} {
		segs, _, _ := cartoon.Segments(c)
		m, e := faces.Build(c.Wall, segs)
		wants(t, "Map", of(cartoon.Map(c)), m, e)
	}
	want(t, "faces of the chapter's map", mapOf(t, spelt()).Faces, 4)
}

// errors are cartoons that are well-formed, but for which faces.Build has an error.
var errors = []check{
	{"a wall with a point twice", func(c *api.Cartoon) { c.Wall[1] = c.Wall[0] }, api.ErrTwice},
	{"a wall that crosses itself", func(c *api.Cartoon) { c.Wall = list(0, 0, 40, 30, 40, 0, 0, 30) }, api.ErrCross},
	{"a line to nowhere", func(c *api.Cartoon) { c.Lines[1].Chain[1] = c.Lines[1].Chain[0] }, api.ErrArg},
	{"a line outside", func(c *api.Cartoon) { c.Lines[1].Chain[1].X = 41 }, api.ErrArg},
	{"lines that cross", func(c *api.Cartoon) { c.Lines[1].Chain[0].X = 5 }, api.ErrCross},
	{"lines that overlap", func(c *api.Cartoon) { c.Lines[2].Chain = list(20, 15, 30, 15) }, api.ErrCross},
	{"a line along the wall", func(c *api.Cartoon) { c.Lines[2].Chain = list(20, 30, 30, 30) }, api.ErrCross},
	{"a loose line", func(c *api.Cartoon) { c.Lines[2].Chain = list(20, 20, 30, 20) }, api.ErrLoose},
	{"200 segments to nowhere", lined(50, 5), api.ErrArg},
	{"more segments than a map has lines", lined(40, 7), api.ErrLimit},
	{"too many faces", func(c *api.Cartoon) { *c = zigzag(100); c.Grounds = nil }, api.ErrLimit},
}

// C5 to C7, C10 to C12: behind the error of Check that of faces.Build.
func TestBuildErrors(t *testing.T) {
	for _, x := range errors {
		c := changed(x.change)
		segs, _, e := cartoon.Segments(c)
		if e != api.OK {
			t.Fatalf("Segments with %s: error %d", x.name, e)
		}
		if _, e = faces.Build(c.Wall, segs); e != x.want {
			t.Fatalf("Build with %s: error %d", x.name, e)
		}
		wants(t, "Map with "+x.name, of(cartoon.Map(c)), api.Map{}, x.want)
		wants(t, "GroundOf with "+x.name, of(cartoon.GroundOf(c)), nil, x.want)
		wants(t, "Cells with "+x.name, of(cartoon.Cells(c)), nil, x.want)
		wants(t, "Compile with "+x.name, of(cartoon.Compile(c)), api.Sheet{}, x.want)
		wants(t, "At with "+x.name, atOf(c, pt(-1, 0)), place{}, x.want)
		wants(t, "Along with "+x.name, of(cartoon.Along(c, [][]int{{-1}})), nil, x.want)
		wants(t, "Crossed with "+x.name, of(cartoon.Crossed(c, []int{-1})), nil, x.want)
		wants(t, "Idle with "+x.name, of(cartoon.Idle(c)), nil, x.want)
	}
}

// C6: for each face the ground whose point is inside it.
func TestGroundOf(t *testing.T) {
	c := spelt()
	m := mapOf(t, c)
	got, e := cartoon.GroundOf(c)
	if e != api.OK || len(got) != 4 {
		t.Fatalf("GroundOf: %v, error %d", got, e)
	}
	for face, ground := range got {
		if f, _ := faces.At(m, c.Grounds[ground].At); f != face+1 {
			t.Errorf("GroundOf: the ground %d for the face %d, but it lies in %d", ground, face+1, f)
		}
	}
	wants(t, "GroundOf in another order", of(cartoon.GroundOf(slanted())), []int{1, 2, 0}, api.OK)
	for _, x := range drawings(t, 11, 60) {
		wants(t, "GroundOf", of(cartoon.GroundOf(x.c)), x.groundOf(), api.OK)
	}
}

// C6: the point of a ground is inside a face that no other one has, and each face has one. C7, C10, C11: those functions have the same error.
func TestGroundErrors(t *testing.T) {
	for _, x := range []check{
		{"no grounds", func(c *api.Cartoon) { c.Grounds = nil }, api.ErrGround},
		{"a ground too few", func(c *api.Cartoon) { c.Grounds = c.Grounds[:3] }, api.ErrGround},
		{"two grounds in a face", func(c *api.Cartoon) { c.Grounds[0].At = pt(20, 6) }, api.ErrGround},
		{"two grounds at one point", func(c *api.Cartoon) { c.Grounds[0].At = c.Grounds[1].At }, api.ErrGround},
		{"one ground too many", func(c *api.Cartoon) { c.Grounds = append(c.Grounds, api.Ground{Name: "x", At: pt(6, 6), Work: 1}) }, api.ErrGround},
		{"one more outside", func(c *api.Cartoon) { c.Grounds = append(c.Grounds, api.Ground{Name: "x", At: pt(66, 6), Work: 1}) }, api.ErrGround},
		{"one more on an edge", func(c *api.Cartoon) { c.Grounds = append(c.Grounds, api.Ground{Name: "x", At: pt(10, 6), Work: 1}) }, api.ErrGround},
		{"a ground outside", func(c *api.Cartoon) { c.Grounds[0].At = pt(41, 5) }, api.ErrGround},
		{"a ground on a line", func(c *api.Cartoon) { c.Grounds[0].At = pt(10, 5) }, api.ErrGround},
		{"a ground on the wall", func(c *api.Cartoon) { c.Grounds[0].At = pt(0, 5) }, api.ErrGround},
		{"a ground at a corner", func(c *api.Cartoon) { c.Grounds[0].At = pt(10, 15) }, api.ErrGround},
		{"grounds in any order", func(c *api.Cartoon) { c.Grounds[0], c.Grounds[3] = c.Grounds[3], c.Grounds[0] }, api.OK},
	} {
		c := changed(x.change)
		_, e := cartoon.GroundOf(c)
		want(t, "GroundOf with "+x.name, e, x.want)
		if x.want == api.OK {
			continue
		}
		wants(t, "GroundOf with "+x.name, of(cartoon.GroundOf(c)), nil, x.want)
		wants(t, "Compile with "+x.name, of(cartoon.Compile(c)), api.Sheet{}, x.want)
		wants(t, "At with "+x.name, atOf(c, pt(-1, 0)), place{}, x.want)
		wants(t, "Along with "+x.name, of(cartoon.Along(c, [][]int{{-1}})), nil, x.want)
		wants(t, "Cells with "+x.name, of(cartoon.Cells(c)), [][]int{{1}, {2, 3, 4}}, api.OK)
		wants(t, "Idle with "+x.name, of(cartoon.Idle(c)), []string{"idle"}, api.OK)
		wants(t, "Crossed with "+x.name, of(cartoon.Crossed(c, nil)), nil, api.OK)
	}
}

// C7: faces along a line that must not be a seam are one cell, and those of a third one.
func TestCells(t *testing.T) {
	wants(t, "Cells", of(cartoon.Cells(spelt())), [][]int{{1}, {2, 3, 4}}, api.OK)
	wants(t, "Cells of a wall", of(cartoon.Cells(api.Cartoon{Wall: list(0, 0, 4, 0, 4, 4)})), [][]int{{1}}, api.OK)
	c := zigzag(5)
	for i, p := range c.Lines[0].Chain[1:] {
		c.Lines = append(c.Lines, api.Line{Name: numbered("part", i), Kind: api.LineSeam, Chain: []api.Point{c.Lines[0].Chain[i], p}})
	}
	c.Lines = c.Lines[1:]
	m := mapOf(t, c)
	at := func(i int) int { f, _ := faces.At(m, c.Grounds[i].At); return f }
	for _, x := range []struct{ never, groups [][]int }{
		{[][]int{{}}, [][]int{{0}, {1}, {2}, {3}, {4}, {5}}},
		{[][]int{{0}}, [][]int{{0, 1}, {2}, {3}, {4}, {5}}},
		{[][]int{{4, 1, 2}}, [][]int{{0}, {1, 2, 3}, {4, 5}}},
		{[][]int{{0, 2, 4}}, [][]int{{0, 1}, {2, 3}, {4, 5}}},
		{[][]int{{0, 1, 2, 3, 4}}, [][]int{{0, 1, 2, 3, 4, 5}}},
	} {
		with := cloned(c)
		for _, i := range x.never[0] {
			with.Lines[i].Kind = api.LineNever
		}
		var wanted [][]int
		for _, g := range x.groups {
			var cell []int
			for _, i := range g {
				cell = append(cell, at(i))
			}
			slices.Sort(cell)
			wanted = append(wanted, cell)
		}
		slices.SortFunc(wanted, slices.Compare)
		wants(t, "Cells of a zigzag", of(cartoon.Cells(with)), wanted, api.OK)
	}
	// A line within one face joins nothing, nor does the price of a seam.
	c = changed(func(c *api.Cartoon) {
		c.Lines[1].Kind = api.LineSeam
		c.Lines = append(c.Lines, api.Line{Name: "stub", Kind: api.LineNever, Chain: list(0, 10, 5, 10)})
	})
	wants(t, "Cells with a stub", of(cartoon.Cells(c)), [][]int{{1}, {2}, {3}, {4}}, api.OK)
}

// C7: the chapter's sheet.
func TestCompile(t *testing.T) {
	wants(t, "Compile", of(cartoon.Compile(spelt())), api.Sheet{
		Cells: []api.Cell{
			{Faces: []int{1}, Work: 30, High: 30, Colours: []string{"azurite", "lime"}},
			{Faces: []int{2, 3, 4}, Work: 180, High: 30, Colours: sheetColours(t)},
		},
		Seams: []api.Seam{{A: 0, B: 1, Price: 60}},
	}, api.OK)
	s := sheetOf(t, slanted())
	wants(t, "Compile of slanted lines", of(cartoon.Compile(slanted())), api.Sheet{
		Cells: []api.Cell{
			{Faces: []int{1}, Work: 2, High: 8, Colours: []string{"b"}},
			{Faces: []int{2}, Work: 4, High: 8},
			{Faces: []int{3}, Work: 1, Low: 5, High: 8, Colours: []string{"a", "b"}},
		},
		Seams: []api.Seam{{A: 0, B: 1, Price: 27, Upper: api.UpA}, {A: 0, B: 2, Price: 70, Upper: api.UpB}, {A: 1, B: 2, Price: 21, Upper: api.UpB}},
	}, api.OK)
	want(t, "CheckSheet of it", cartoon.CheckSheet(s), api.OK)
	wants(t, "Compile of a wall", of(cartoon.Compile(api.Cartoon{Wall: list(0, 3, 4, 1, 4, 4), Grounds: []api.Ground{{Name: "a", At: pt(3, 3), Work: 5}}})),
		api.Sheet{Cells: []api.Cell{{Faces: []int{1}, Work: 5, Low: 1, High: 4}}}, api.OK)
}

// sheetColours returns the colours of the cell with three faces of the chapter's cartoon, in the order in which the map has these faces.
func sheetColours(t *testing.T) []string {
	c := spelt()
	grounds, _ := cartoon.GroundOf(c)
	var out []string
	for _, g := range grounds[1:] {
		for _, s := range c.Grounds[g].Colours {
			if !slices.Contains(out, s) {
				out = append(out, s)
			}
		}
	}
	if len(out) != 3 {
		t.Fatalf("colours %v", out)
	}
	return out
}

// C7: which of two cells lies above the other one, along all edges between them.
func TestUpper(t *testing.T) {
	// The one cell lies round a block of the other one, from a side, from below, from above.
	ground := func(name string, x, y int) api.Ground { return api.Ground{Name: name, At: pt(x, y), Work: 1} }
	for _, x := range []struct {
		name   string
		chain  []api.Point
		points []api.Point
		want   api.Seam
	}{
		{"a vertical seam", list(4, 0, 4, 8), list(1, 1, 7, 1), api.Seam{B: 1, Price: 8}},
		{"a level seam", list(0, 4, 8, 4), list(1, 1, 1, 7), api.Seam{B: 1, Price: 8, Upper: api.UpB}},
		{"a seam that falls", list(0, 8, 8, 0), list(1, 1, 7, 7), api.Seam{B: 1, Price: 16, Upper: api.UpB}},
		{"a seam that rises", list(0, 0, 8, 8), list(1, 7, 7, 1), api.Seam{B: 1, Price: 16, Upper: api.UpA}},
		{"a step", list(0, 4, 4, 4, 4, 8), list(1, 1, 1, 7), api.Seam{B: 1, Price: 8, Upper: api.UpB}},
		{"a block at a side", list(0, 2, 4, 2, 4, 6, 0, 6), list(1, 1, 1, 4), api.Seam{B: 1, Price: 12, Upper: api.UpBoth}},
		{"a steep seam", list(3, 0, 4, 8), list(1, 1, 7, 1), api.Seam{B: 1, Price: 9, Upper: api.UpA}},
	} {
		c := api.Cartoon{Wall: list(0, 0, 8, 0, 8, 8, 0, 8), Lines: []api.Line{{Name: "line", Kind: api.LineSeam, Price: 1, Chain: x.chain}}}
		c.Grounds = []api.Ground{ground("a", x.points[0].X, x.points[0].Y), ground("b", x.points[1].X, x.points[1].Y)}
		if grounds, e := cartoon.GroundOf(c); e != api.OK || grounds[0] != 0 {
			t.Fatalf("%s: GroundOf %v, error %d", x.name, grounds, e)
		}
		want(t, "the seam of "+x.name, sheetOf(t, c).Seams, []api.Seam{x.want})
		slices.Reverse(c.Lines[0].Chain)
		want(t, "the seam of "+x.name+", drawn the other way", sheetOf(t, c).Seams, []api.Seam{x.want})
	}
}

// C7: the sheet is what the squares of the wall say.
func TestCompileOfSquares(t *testing.T) {
	cells, both := 0, 0
	for _, x := range drawings(t, 12, 250) {
		s := sheetOf(t, x.c)
		want(t, "Compile of "+cartoon.Print(x.c), s, x.sheet())
		want(t, "CheckSheet of it", cartoon.CheckSheet(s), api.OK)
		var wanted [][]int
		for _, cell := range s.Cells {
			wanted = append(wanted, cell.Faces)
			cells += len(cell.Faces) - 1
		}
		for _, seam := range s.Seams {
			both += int(seam.Upper) / 3
		}
		wants(t, "Cells", of(cartoon.Cells(x.c)), wanted, api.OK)
	}
	if cells < 20 || both < 5 {
		t.Errorf("too few of the cartoons have large cells: %d, %d", cells, both)
	}
}

// C7: the limits of sheets.
func TestCompileLimits(t *testing.T) {
	s := sheetOf(t, zigzag(23))
	if len(s.Cells) != 24 || len(s.Seams) != 23 {
		t.Errorf("Compile of 24 cells: %d, %d seams", len(s.Cells), len(s.Seams))
	}
	wants(t, "Compile of 25 cells", of(cartoon.Compile(zigzag(24))), api.Sheet{}, api.ErrLimit)
	wants(t, "Along of 25 cells", of(cartoon.Along(zigzag(24), [][]int{{-1}})), nil, api.ErrLimit)
	if got, e := cartoon.Cells(zigzag(99)); e != api.OK || len(got) != 100 {
		t.Errorf("Cells of 100: %d, error %d", len(got), e)
	}
	c := zigzag(24)
	c.Grounds[3].At = c.Grounds[4].At
	wants(t, "Compile of 25 cells without grounds", of(cartoon.Compile(c)), api.Sheet{}, api.ErrGround)
	// A hundred faces in one cell.
	c = zigzag(99)
	for i := range c.Lines {
		c.Lines[i].Kind, c.Lines[i].Price = api.LineNever, 0
	}
	for i := range c.Grounds {
		c.Grounds[i].Work = 1000
	}
	wants(t, "Compile of one cell", of(cartoon.Compile(c)), api.Sheet{Cells: []api.Cell{{Faces: all(101)[1:], Work: 100000, High: 200}}}, api.OK)
	for i := range c.Grounds[:40] {
		c.Grounds[i].Colours = []string{numbered("c", i), "ca", "cb"}
		if i < 2 {
			c.Grounds[i].Colours = []string{"ca", "cb"}
		}
	}
	if s := sheetOf(t, c); len(s.Cells[0].Colours) != 40 || cartoon.CheckSheet(s) != api.OK {
		t.Errorf("Compile of a cell of 40 colours: %d", len(s.Cells[0].Colours))
	}
	c.Grounds[70].Colours = []string{"x"}
	wants(t, "Compile of a cell of 41 colours", of(cartoon.Compile(c)), api.Sheet{}, api.ErrLimit)
	wants(t, "Along of a cell of 41 colours", of(cartoon.Along(c, [][]int{{-1}})), nil, api.ErrLimit)
	wants(t, "At in a cell of 41 colours", atOf(c, c.Grounds[3].At), place{0, c.Grounds[3].Name}, api.OK)
	// The greatest work, height and price.
	c = api.Cartoon{Wall: list(0, 0, 10000, 0, 10000, 10000, 0, 10000), Lines: []api.Line{{Name: "a", Kind: api.LineSeam, Price: 1000, Chain: list(0, 0, 10000, 10000)}},
		Grounds: []api.Ground{{Name: "a", At: pt(1, 9999), Work: 1000}, {Name: "b", At: pt(9999, 1), Work: 1}}}
	want(t, "the seam of a large wall", sheetOf(t, c).Seams, []api.Seam{{A: 0, B: 1, Price: 20000000, Upper: api.UpA}})
}

// C10: the cell and the ground of a point.
func TestAt(t *testing.T) {
	c := spelt()
	for p, x := range map[api.Point]result[place]{
		pt(20, 20):    {place{}, api.ErrEdge},
		pt(21, 20):    {place{1, "hair"}, api.OK},
		pt(19, 20):    {place{1, "brow"}, api.OK},
		pt(20, 14):    {place{1, "cheek"}, api.OK},
		pt(9, 29):     {place{0, "sky"}, api.OK},
		pt(41, 20):    {place{}, api.ErrNone},
		pt(40, 20):    {place{}, api.ErrEdge},
		pt(0, 0):      {place{}, api.ErrEdge},
		pt(-1, 0):     {place{}, api.ErrArg},
		pt(0, 10001):  {place{}, api.ErrArg},
		pt(huge, 0):   {place{}, api.ErrArg},
		pt(0, tiny):   {place{}, api.ErrArg},
		pt(10000, 10): {place{}, api.ErrNone},
	} {
		wants(t, "At", atOf(c, p), x.value, x.e)
	}
	for _, x := range drawings(t, 13, 40) {
		for _, p := range middles(x.c) {
			ground := x.groundOf()[x.face(p)-1]
			wants(t, "At", atOf(x.c, p), place{x.cells[p], x.c.Grounds[ground].Name}, api.OK)
		}
	}
}

// C11: the edges between patches.
func TestAlong(t *testing.T) {
	c := spelt()
	m := mapOf(t, c)
	var left []int
	for i, x := range m.Edges {
		if m.Points[x.A].X == 10 && m.Points[x.B].X == 10 {
			left = append(left, i)
		}
	}
	if len(left) != 2 {
		t.Fatalf("edges at X = 10: %v", left)
	}
	for _, x := range []struct {
		name    string
		patches [][]int
		want    []int
		e       api.Errno
	}{
		{"one patch", [][]int{{0, 1}}, nil, api.OK},
		{"one patch in another order", [][]int{nil, {1, 0}}, nil, api.OK},
		{"no lists", nil, left, api.OK},
		{"empty lists", [][]int{{}, {}, {}}, left, api.OK},
		{"one cell in a list", [][]int{{1}}, left, api.OK},
		{"two lists", [][]int{{1}, {0}}, left, api.OK},
		{"no cell", [][]int{{0}, {2}}, nil, api.ErrArg},
		{"a cell below 0", [][]int{{-1}}, nil, api.ErrArg},
		{"any numbers", [][]int{{tiny, huge}}, nil, api.ErrArg},
		{"a cell twice", [][]int{{0, 0}}, nil, api.ErrTwice},
		{"a cell in two lists", [][]int{{0}, {1, 0}}, nil, api.ErrTwice},
		{"a cell twice before no cell", [][]int{{0}, {0, 2}}, nil, api.ErrTwice},
		{"no cell before a cell twice", [][]int{{0, 2}, {0}}, nil, api.ErrArg},
	} {
		wants(t, "Along of "+x.name, of(cartoon.Along(c, x.patches)), x.want, x.e)
	}
}

// C11 and P3.2: the edges along which the squares on the two sides are in different patches; none is on a line that must not be a seam.
func TestAlongOfSquares(t *testing.T) {
	d := &dice{14}
	some := 0
	for _, x := range drawings(t, 15, 80) {
		n := len(sheetOf(t, x.c).Cells)
		patches, patchOf := d.patches(n)
		var wanted []int
		for i := range x.m.Edges {
			p, q, _ := x.sides(i)
			a, inside := x.cells[p]
			b, beside := x.cells[q]
			if inside && beside && patchOf[a] != patchOf[b] {
				wanted = append(wanted, i)
			}
		}
		wants(t, "Along", of(cartoon.Along(x.c, patches)), wanted, api.OK)
		wants(t, "Crossed of it", of(cartoon.Crossed(x.c, wanted)), nil, api.OK)
		some += len(wanted)
	}
	if some == 0 {
		t.Error("no seams")
	}
}

// patches returns patches of some of n cells, and a number for the patch of each cell.
func (d *dice) patches(n int) ([][]int, []int) {
	patches := make([][]int, 1+d.roll(4))
	patchOf := make([]int, n)
	for i := range n {
		patchOf[i] = -1 - i
	}
	for i := range n {
		if k := d.roll(len(patches) + 1); k < len(patches) {
			patches[k] = slices.Insert(patches[k], d.roll(len(patches[k])+1), i)
			patchOf[i] = k
		}
	}
	return patches, patchOf
}

// C12: the names of the never lines of some edges.
func TestCrossed(t *testing.T) {
	c := spelt()
	n := len(mapOf(t, c).Edges)
	wants(t, "Crossed of all edges", of(cartoon.Crossed(c, all(n))), []string{"nose"}, api.OK)
	wants(t, "Crossed of all edges twice", of(cartoon.Crossed(c, append(all(n), all(n)...))), []string{"nose"}, api.OK)
	wants(t, "Crossed of none", of(cartoon.Crossed(c, nil)), nil, api.OK)
	wants(t, "Crossed of an edge too many", of(cartoon.Crossed(c, all(n+1))), nil, api.ErrArg)
	wants(t, "Crossed of an edge below 0", of(cartoon.Crossed(c, []int{0, -1})), nil, api.ErrArg)
	wants(t, "Crossed of any numbers", of(cartoon.Crossed(c, []int{huge, tiny})), nil, api.ErrArg)
	d := &dice{16}
	several := 0
	for _, x := range drawings(t, 17, 80) {
		var edges []int
		met := map[int]bool{}
		for range d.roll(12) {
			i := d.roll(len(x.m.Edges))
			_, _, between := x.sides(i)
			edges = append(edges, i)
			met[x.lineAt(between)] = true
		}
		var wanted []string
		for i, l := range x.c.Lines {
			if met[i] && l.Kind == api.LineNever {
				wanted = append(wanted, l.Name)
			}
		}
		several += len(wanted) / 2
		wants(t, "Crossed", of(cartoon.Crossed(x.c, edges)), wanted, api.OK)
	}
	if several == 0 {
		t.Error("no two never lines")
	}
}

// C12: the names of the seam lines that part no cells.
func TestIdle(t *testing.T) {
	wants(t, "Idle", of(cartoon.Idle(spelt())), []string{"idle"}, api.OK)
	several := 0
	for _, x := range drawings(t, 18, 80) {
		met := map[int]bool{}
		for i := range x.m.Edges {
			p, q, between := x.sides(i)
			a, inside := x.cells[p]
			b, beside := x.cells[q]
			if inside && beside && a != b {
				met[x.lineAt(between)] = true
			}
		}
		var wanted []string
		for i, l := range x.c.Lines {
			if !met[i] && l.Kind == api.LineSeam {
				wanted = append(wanted, l.Name)
			}
		}
		several += len(wanted) / 2
		wants(t, "Idle", of(cartoon.Idle(x.c)), wanted, api.OK)
	}
	if several == 0 {
		t.Error("no two idle lines")
	}
}
