package cartoon_test

import (
	"cmp"
	"maps"
	"reflect"
	"slices"
	"strings"
	"testing"

	"giornata/api"
	"giornata/cartoon"
	"giornata/faces"
	"giornata/plane"
)

const (
	huge = int(^uint(0) >> 1)
	tiny = -huge - 1
)

// source is the cartoon C of the chapter.
const source = `wall 0 0 40 0 40 30 0 30
seam left 2 10 0 10 30        # a seam from below to above
never nose 10 15 40 15
seam idle 1 20 15 20 30
ground sky 30 5 5 azurite lime
ground cheek 60 20 5 ochre lime
ground brow 50 15 20 ochre
ground hair 70 30 20 umber
`

// spelt returns the cartoon that the source is.
func spelt() api.Cartoon {
	return api.Cartoon{
		Wall: list(0, 0, 40, 0, 40, 30, 0, 30),
		Lines: []api.Line{
			{Name: "left", Kind: api.LineSeam, Price: 2, Chain: list(10, 0, 10, 30)},
			{Name: "nose", Kind: api.LineNever, Chain: list(10, 15, 40, 15)},
			{Name: "idle", Kind: api.LineSeam, Price: 1, Chain: list(20, 15, 20, 30)},
		},
		Grounds: []api.Ground{
			{Name: "sky", At: pt(5, 5), Work: 30, Colours: []string{"azurite", "lime"}},
			{Name: "cheek", At: pt(20, 5), Work: 60, Colours: []string{"ochre", "lime"}},
			{Name: "brow", At: pt(15, 20), Work: 50, Colours: []string{"ochre"}},
			{Name: "hair", At: pt(30, 20), Work: 70, Colours: []string{"umber"}},
		},
	}
}

func pt(x, y int) api.Point { return api.Point{X: x, Y: y} }

func sg(a, b, c, d int) api.Seg { return api.Seg{A: pt(a, b), B: pt(c, d)} }

func list(l ...int) []api.Point {
	var out []api.Point
	for i := 0; i+1 < len(l); i += 2 {
		out = append(out, pt(l[i], l[i+1]))
	}
	return out
}

// same compares results; nil and empty slices are equal, also within structs and lists.
func same(a, b any) bool { return alike(reflect.ValueOf(a), reflect.ValueOf(b)) }

func alike(a, b reflect.Value) bool {
	if !a.IsValid() || !b.IsValid() {
		return blank(a) && blank(b)
	}
	if a.Type() != b.Type() {
		return false
	}
	switch a.Kind() {
	case reflect.Slice:
		if a.Len() != b.Len() {
			return false
		}
		for i := range a.Len() {
			if !alike(a.Index(i), b.Index(i)) {
				return false
			}
		}
		return true
	case reflect.Struct:
		for i := range a.NumField() {
			if !alike(a.Field(i), b.Field(i)) {
				return false
			}
		}
		return true
	}
	return a.Equal(b)
}

// blank reports whether a value is nothing, or an empty slice, which are equivalent.
func blank(v reflect.Value) bool { return !v.IsValid() || v.Kind() == reflect.Slice && v.Len() == 0 }

func want(t *testing.T, name string, got, wanted any) {
	t.Helper()
	if !same(got, wanted) {
		t.Errorf("%s: %v, want %v", name, got, wanted)
	}
}

// result is a value and the error that came with it.
type result[T any] struct {
	value T
	e     api.Errno
}

func of[T any](value T, e api.Errno) result[T] { return result[T]{value, e} }

// wants compares a result with an error and with a value, which is nil or the zero value for errors.
func wants[T any](t *testing.T, name string, got result[T], value T, e api.Errno) {
	t.Helper()
	if got.e != e || !same(got.value, value) {
		t.Errorf("%s: %v, error %d, want %v, %d", name, got.value, got.e, value, e)
	}
}

// dice yields numbers that are the same in every run.
type dice struct{ state uint64 }

func (d *dice) roll(n int) int {
	d.state = d.state*6364136223846793005 + 1442695040888963407
	return int((d.state >> 33) % uint64(n))
}

// place is a cell and the name of a ground.
type place struct {
	cell int
	name string
}

func atOf(c api.Cartoon, p api.Point) result[place] {
	cell, name, e := cartoon.At(c, p)
	return result[place]{place{cell, name}, e}
}

// owned is the segments of a cartoon, and the lines to which they belong.
type owned struct {
	segs  []api.Seg
	lines []int
}

func segmentsOf(c api.Cartoon) result[owned] {
	segs, lines, e := cartoon.Segments(c)
	return result[owned]{owned{segs, lines}, e}
}

func cloned(c api.Cartoon) api.Cartoon {
	out := api.Cartoon{Wall: slices.Clone(c.Wall), Lines: slices.Clone(c.Lines), Grounds: slices.Clone(c.Grounds)}
	for i := range out.Lines {
		out.Lines[i].Chain = slices.Clone(out.Lines[i].Chain)
	}
	for i := range out.Grounds {
		out.Grounds[i].Colours = slices.Clone(out.Grounds[i].Colours)
	}
	return out
}

// changed returns the chapter's cartoon with a change.
func changed(change func(c *api.Cartoon)) api.Cartoon {
	c := spelt()
	change(&c)
	return c
}

// mapOf returns the map of a cartoon that has no error.
func mapOf(t *testing.T, c api.Cartoon) api.Map {
	t.Helper()
	m, e := cartoon.Map(c)
	if e != api.OK {
		t.Fatalf("Map of %v: error %d", c, e)
	}
	return m
}

func sheetOf(t *testing.T, c api.Cartoon) api.Sheet {
	t.Helper()
	s, e := cartoon.Compile(c)
	if e != api.OK {
		t.Fatalf("Compile of %v: error %d", c, e)
	}
	return s
}

// all returns the numbers below n.
func all(n int) []int {
	var out []int
	for i := range n {
		out = append(out, i)
	}
	return out
}

// zigzag returns a cartoon of a wall of the width 4, which a seam line divides by n segments from side to side into n+1 faces, with a ground for each. Each line has as many of the segments as it may.
func zigzag(n int) api.Cartoon {
	c := api.Cartoon{Wall: list(0, 0, 4, 0, 4, 2*n+2, 0, 2*n+2)}
	corner := func(i int) api.Point { return pt(i%2*4, 2*i) }
	for i := range n {
		if i%39 == 0 {
			c.Lines = append(c.Lines, api.Line{Name: numbered("line", i), Kind: api.LineSeam, Price: 1, Chain: []api.Point{corner(i)}})
		}
		l := &c.Lines[len(c.Lines)-1]
		l.Chain = append(l.Chain, corner(i+1))
	}
	for i := range n + 1 {
		at := pt(3-i%2*2, 2*i)
		if i == 0 || i == n {
			at.Y++
		}
		c.Grounds = append(c.Grounds, api.Ground{Name: numbered("ground", i), At: at, Work: 1})
	}
	return c
}

// numbered returns a name with a number, written in letters.
func numbered(name string, n int) string {
	return name + strings.Repeat("z", n/26) + string(rune('a'+n%26))
}

const side = 2 // of the squares of a drawn cartoon, so that their middles are points

// drawn returns a cartoon whose lines run along the sides of squares, with a ground for each of its faces, that has a map.
func (d *dice) drawn() api.Cartoon {
	width, height := side*(3+d.roll(3)), side*(3+d.roll(3))
	c := api.Cartoon{Wall: list(0, 0, width, 0, width, height, 0, height)}
	if d.roll(2) == 0 { // a step at a corner
		c.Wall = list(0, 0, width, 0, width, height-side, width-side, height-side, width-side, height, 0, height)
	}
	for i := range 20 + d.roll(60) {
		l := api.Line{Name: numbered("line", i), Kind: api.LineSeam, Price: d.roll(5), Chain: d.chain(width, height)}
		if d.roll(3) == 0 {
			l.Kind, l.Price = api.LineNever, 0
		}
		with := c
		with.Lines = append(slices.Clone(c.Lines), l)
		if _, e := cartoon.Map(with); e == api.OK {
			c = with
		}
	}
	c.Grounds = d.grounds(c)
	return c
}

// chain returns a way along the sides of squares of a wall.
func (d *dice) chain(width, height int) []api.Point {
	p := pt(side*d.roll(width/side+1), side*d.roll(height/side+1))
	out := []api.Point{p}
	steps := list(1, 0, 0, 1, -1, 0, 0, -1)
	for at := d.roll(4); len(out) == 1 || d.roll(2) > 0; at = (at + 1 + 2*d.roll(2)) % 4 {
		length := side * (1 + d.roll(4))
		next := pt(min(max(p.X+length*steps[at].X, 0), width), min(max(p.Y+length*steps[at].Y, 0), height))
		if next != p {
			out = append(out, next)
		}
		p = next
	}
	return out
}

// grounds returns a ground for each face of a drawn cartoon, in any order.
func (d *dice) grounds(c api.Cartoon) []api.Ground {
	colours := []string{"azurite", "lime", "ochre", "umber", "green-earth"}
	m, _ := cartoon.Map(c)
	var out []api.Ground
	seen := map[int]bool{0: true}
	for _, p := range middles(c) {
		f, _ := faces.At(m, p)
		if seen[f] {
			continue
		}
		seen[f] = true
		g := api.Ground{Name: numbered("ground", len(out)), At: p, Work: 1 + d.roll(99)}
		for _, i := range []int{d.roll(5), d.roll(5), d.roll(5)} {
			if !slices.Contains(g.Colours, colours[i]) && d.roll(3) > 0 {
				g.Colours = append(g.Colours, colours[i])
			}
		}
		out = slices.Insert(out, d.roll(len(out)+1), g)
	}
	return out
}

// middles returns the middles of all squares of a drawn cartoon.
func middles(c api.Cartoon) []api.Point {
	_, high, _ := plane.Box(c.Wall)
	var out []api.Point
	for x := side / 2; x < high.X; x += side {
		for y := side / 2; y < high.Y; y += side {
			if p := pt(x, y); plane.Where(c.Wall, p) == api.WhereIn {
				out = append(out, p)
			}
		}
	}
	return out
}

// model is what a drawn cartoon is by its squares alone: a cell is what a painter reaches who crosses no seam line.
type model struct {
	c     api.Cartoon
	m     api.Map
	cells map[api.Point]int
}

func modelOf(t *testing.T, c api.Cartoon) model {
	t.Helper()
	out := model{c: c, m: mapOf(t, c)}
	groups := map[api.Point]api.Point{}
	for _, p := range middles(c) {
		out.flood(p, p, groups)
	}
	least := map[api.Point]int{} // the least face of each group
	for p, group := range groups {
		if f := out.face(p); least[group] == 0 || f < least[group] {
			least[group] = f
		}
	}
	order := slices.Sorted(maps.Values(least))
	out.cells = map[api.Point]int{}
	for p, group := range groups {
		out.cells[p], _ = slices.BinarySearch(order, least[group])
	}
	return out
}

func (x model) flood(p, group api.Point, groups map[api.Point]api.Point) {
	if _, done := groups[p]; done || plane.Where(x.c.Wall, p) != api.WhereIn {
		return
	}
	groups[p] = group
	for _, step := range list(1, 0, -1, 0, 0, 1, 0, -1) {
		between := pt(p.X+step.X, p.Y+step.Y)
		if l := x.lineAt(between); l < 0 || x.c.Lines[l].Kind != api.LineSeam {
			x.flood(pt(p.X+2*step.X, p.Y+2*step.Y), group, groups)
		}
	}
}

// lineAt returns the line that has the middle of a side of a square, or -1.
func (x model) lineAt(p api.Point) int {
	for i, l := range x.c.Lines {
		for j, q := range l.Chain[1:] {
			if plane.On(p, api.Seg{A: l.Chain[j], B: q}) {
				return i
			}
		}
	}
	return -1
}

func (x model) face(p api.Point) int {
	f, _ := faces.At(x.m, p)
	return f
}

// groundOf returns the grounds of the faces.
func (x model) groundOf() []int {
	out := make([]int, x.m.Faces)
	for i, g := range x.c.Grounds {
		out[x.face(g.At)-1] = i
	}
	return out
}

// sheet returns the sheet, square by square.
func (x model) sheet() api.Sheet {
	var out api.Sheet
	seams := map[api.Pair]api.Seam{}
	for _, p := range middles(x.c) {
		for x.cells[p] >= len(out.Cells) {
			out.Cells = append(out.Cells, api.Cell{Low: huge, High: tiny})
		}
		cell := &out.Cells[x.cells[p]]
		cell.Low, cell.High = min(cell.Low, p.Y-1), max(cell.High, p.Y+1)
		if f := x.face(p); !slices.Contains(cell.Faces, f) {
			cell.Faces = append(cell.Faces, f)
		}
		x.addSeam(seams, p, 1, 0)
		x.addSeam(seams, p, 0, 1)
	}
	grounds := x.groundOf()
	for i := range out.Cells {
		cell := &out.Cells[i]
		slices.Sort(cell.Faces)
		for _, f := range cell.Faces {
			g := x.c.Grounds[grounds[f-1]]
			cell.Work += g.Work
			for _, s := range g.Colours {
				if !slices.Contains(cell.Colours, s) {
					cell.Colours = append(cell.Colours, s)
				}
			}
		}
	}
	out.Seams = slices.SortedFunc(maps.Values(seams), func(s, t api.Seam) int { return cmp.Or(cmp.Compare(s.A, t.A), cmp.Compare(s.B, t.B)) })
	return out
}

// addSeam adds the side between a square and the next one to the right or above.
func (x model) addSeam(seams map[api.Pair]api.Seam, p api.Point, dx, dy int) {
	cell, inside := x.cells[p]
	other, ok := x.cells[pt(p.X+2*dx, p.Y+2*dy)]
	if !inside || !ok || cell == other {
		return
	}
	key := api.Pair{A: min(cell, other), B: max(cell, other)}
	s := seams[key]
	s.A, s.B = key.A, key.B
	s.Price += side * x.c.Lines[x.lineAt(pt(p.X+dx, p.Y+dy))].Price
	if dy == 1 {
		s.Upper |= map[bool]uint8{true: api.UpA, false: api.UpB}[other == key.A]
	}
	seams[key] = s
}

// sides returns the middles of the squares on the two sides of an edge, and that of the part of the edge between them.
func (x model) sides(edge int) (p, q, between api.Point) {
	a, b := x.m.Points[x.m.Edges[edge].A], x.m.Points[x.m.Edges[edge].B]
	if a.X == b.X {
		return pt(a.X-1, a.Y+1), pt(a.X+1, a.Y+1), pt(a.X, a.Y+1)
	}
	return pt(a.X+1, a.Y+1), pt(a.X+1, a.Y-1), pt(a.X+1, a.Y)
}

// drawings returns drawn cartoons, each with its model.
func drawings(t *testing.T, seed uint64, count int) []model {
	t.Helper()
	d := &dice{seed}
	var out []model
	for range count {
		out = append(out, modelOf(t, d.drawn()))
	}
	return out
}
