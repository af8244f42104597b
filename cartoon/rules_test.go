package cartoon_test

import (
	"slices"
	"testing"

	"giornata/api"
	"giornata/cartoon"
)

// R1: no function panics, whatever the fields are.
func TestAnyNumbers(t *testing.T) {
	numbers := []int{tiny, tiny + 1, -10001, -1, 0, 1, 2, 3, 10, 40, 10000, 10001, huge - 1, huge}
	names := []string{"", "a", "left", "\xff", "a b", "#", "nose"}
	d := &dice{51}
	n := func() int { return numbers[d.roll(len(numbers))] }
	w := func() string { return names[d.roll(len(names))] }
	for range 3000 {
		c := spelt()
		switch d.roll(6) {
		case 0:
			c.Wall = list(n(), n(), n(), n(), n(), n())
		case 1:
			c.Lines[d.roll(3)] = api.Line{Name: w(), Kind: uint8(n()), Price: n(), Chain: list(n(), n(), n(), n())}
		case 2:
			c.Grounds[d.roll(4)] = api.Ground{Name: w(), At: pt(n(), n()), Work: n(), Colours: []string{w(), w()}}
		case 3:
			c.Lines[d.roll(3)].Chain = list(n(), n(), n(), n(), n(), n())
		}
		s := plan()
		switch d.roll(4) {
		case 0:
			s.Cells[d.roll(3)] = api.Cell{Faces: []int{n(), n()}, Work: n(), Low: n(), High: n(), Colours: []string{w()}}
		case 1:
			s.Seams[d.roll(2)] = api.Seam{A: n(), B: n(), Price: n(), Upper: uint8(n())}
		}
		src := w()
		for range d.roll(20) {
			src += []string{" ", "\n", "wall 0 0 4 0 4 4", "seam", "never", "ground", w(), "1", "999999999", "9999999999", "#"}[d.roll(11)]
		}
		cartoon.Parse(src)
		cartoon.Print(c)
		cartoon.Check(c)
		cartoon.Segments(c)
		cartoon.Map(c)
		cartoon.GroundOf(c)
		cartoon.Cells(c)
		cartoon.Compile(c)
		cartoon.CheckSheet(s)
		cartoon.SeamOf(s, n(), n())
		cartoon.Colours(s, []int{n(), n()})
		cartoon.Uses(s)
		cartoon.At(c, pt(n(), n()))
		cartoon.Along(c, [][]int{{n()}, {n(), n()}})
		cartoon.Crossed(c, []int{n(), n()})
		cartoon.Idle(c)
		cartoon.Move(c, n(), n())
		cartoon.Mirror(c, n())
		cartoon.Enlarge(c, n())
	}
}

func spoil[T any](l []T, x T) []T {
	out := slices.Clone(l)
	l = l[:cap(l)]
	for i := range l {
		l[i] = x
	}
	return out
}

func spoilCartoon(c api.Cartoon) api.Cartoon {
	out := api.Cartoon{Wall: spoil(c.Wall, pt(99, 99))}
	for _, l := range c.Lines {
		l.Chain = spoil(l.Chain, pt(99, 99))
		out.Lines = append(out.Lines, l)
	}
	for _, g := range c.Grounds {
		g.Colours = spoil(g.Colours, "spoilt")
		out.Grounds = append(out.Grounds, g)
	}
	spoil(c.Lines, api.Line{Name: "spoilt"})
	spoil(c.Grounds, api.Ground{Name: "spoilt"})
	return out
}

func spoilSheet(s api.Sheet) api.Sheet {
	out := api.Sheet{Seams: spoil(s.Seams, api.Seam{A: 99})}
	for _, cell := range s.Cells {
		cell.Faces, cell.Colours = spoil(cell.Faces, 99), spoil(cell.Colours, "spoilt")
		out.Cells = append(out.Cells, cell)
	}
	spoil(s.Cells, api.Cell{Work: 99})
	return out
}

func spoilLists(l [][]int) [][]int {
	var out [][]int
	for _, x := range l {
		out = append(out, spoil(x, 99))
	}
	return out
}

// calls are the functions with some arguments; each spoils what it gets, and returns it spelt out.
func calls(src string, c api.Cartoon, s api.Sheet, patches [][]int) []func() any {
	return []func() any{
		func() any { out, fault := cartoon.Parse(src); return parsed{spoilCartoon(out), fault} },
		func() any { return cartoon.Print(c) },
		func() any { return cartoon.Check(c) },
		func() any {
			segs, lines, e := cartoon.Segments(c)
			return result[owned]{owned{spoil(segs, api.Seg{}), spoil(lines, 99)}, e}
		},
		func() any {
			m, e := cartoon.Map(c)
			m.Points, m.Edges = spoil(m.Points, pt(99, 99)), spoil(m.Edges, api.Edge{})
			return of(m, e)
		},
		func() any { l, e := cartoon.GroundOf(c); return of(spoil(l, 99), e) },
		func() any { l, e := cartoon.Cells(c); return of(spoilLists(l), e) },
		func() any { out, e := cartoon.Compile(c); return of(spoilSheet(out), e) },
		func() any { return cartoon.CheckSheet(s) },
		func() any { out, _ := cartoon.SeamOf(s, 0, 1); return out },
		func() any { l, e := cartoon.Colours(s, []int{1, 0}); return of(spoil(l, "spoilt"), e) },
		func() any { l, e := cartoon.Colours(s, []int{0}); return of(spoil(l, "spoilt"), e) },
		func() any { l, e := cartoon.Uses(s); return of(spoil(l, api.Use{}), e) },
		func() any { return atOf(c, pt(21, 20)) },
		func() any { l, e := cartoon.Along(c, patches); return of(spoil(l, 99), e) },
		func() any {
			l, e := cartoon.Crossed(c, []int{1, 2, 3, 4, 5, 6, 7, 8})
			return of(spoil(l, "spoilt"), e)
		},
		func() any { l, e := cartoon.Idle(c); return of(spoil(l, "spoilt"), e) },
		func() any { out, e := cartoon.Move(c, 0, 0); return of(spoilCartoon(out), e) },
		func() any { out, e := cartoon.Mirror(c, 40); return of(spoilCartoon(out), e) },
		func() any { out, e := cartoon.Enlarge(c, 1); return of(spoilCartoon(out), e) },
	}
}

// R3 and R4: functions leave their arguments alone, results are new memory, and calls leave no trace.
func TestArgumentsStay(t *testing.T) {
	// Slices with room behind them would show a function that appends to its arguments.
	c, s := roomy(spelt()), plan()
	for i := range s.Cells {
		s.Cells[i].Colours = slices.Grow(s.Cells[i].Colours, 9)
	}
	patches := [][]int{slices.Grow([]int{1}, 9), nil}
	for i, call := range calls(source, c, s, patches) {
		first := call()
		for _, other := range calls(cartoon.Print(slanted()), slanted(), celled(3), nil) {
			other()
		}
		if again := call(); !same(first, again) {
			t.Errorf("call %d: first %v, then %v", i, first, again)
		}
		if !same(c, spelt()) || !same(s, plan()) || !same(patches, [][]int{{1}, nil}) {
			t.Fatalf("call %d changes an argument", i)
		}
		for _, g := range c.Grounds {
			if room := g.Colours[len(g.Colours):cap(g.Colours)]; slices.ContainsFunc(room, func(s string) bool { return s != "" }) {
				t.Fatalf("call %d writes behind an argument", i)
			}
		}
		for _, cell := range s.Cells {
			if room := cell.Colours[len(cell.Colours):cap(cell.Colours)]; slices.ContainsFunc(room, func(s string) bool { return s != "" }) {
				t.Fatalf("call %d writes behind an argument", i)
			}
		}
	}
}

// roomy returns a cartoon with room behind its slices.
func roomy(c api.Cartoon) api.Cartoon {
	c.Wall, c.Lines, c.Grounds = slices.Grow(c.Wall, 9), slices.Grow(c.Lines, 9), slices.Grow(c.Grounds, 9)
	for i := range c.Lines {
		c.Lines[i].Chain = slices.Grow(c.Lines[i].Chain, 9)
	}
	for i := range c.Grounds {
		c.Grounds[i].Colours = slices.Grow(c.Grounds[i].Colours, 9)
	}
	return c
}

// R3: no two lists of a result share memory.
func TestListsOfResults(t *testing.T) {
	c := slanted()
	c.Grounds[0].Colours, c.Grounds[1].Colours = []string{"a"}, []string{"a"}
	cells, _ := cartoon.Cells(c)
	kept := [][]int{slices.Clone(cells[0]), slices.Clone(cells[1]), slices.Clone(cells[2])}
	s := sheetOf(t, c)
	whole := clonedSheet(s)
	for i := range cells {
		cells[i] = append(cells[i], 99)
		s.Cells[i].Faces = append(s.Cells[i].Faces, 99)
		s.Cells[i].Colours = append(s.Cells[i].Colours, "x")
	}
	for i := range cells {
		want(t, "a cell behind others that grew", cells[i], append(kept[i], 99))
		want(t, "faces behind others that grew", s.Cells[i].Faces, append(whole.Cells[i].Faces, 99))
		want(t, "colours behind others that grew", s.Cells[i].Colours, append(whole.Cells[i].Colours, "x"))
	}
	moved, _ := cartoon.Move(c, 0, 0)
	for i := range moved.Lines {
		moved.Lines[i].Chain = append(moved.Lines[i].Chain, pt(99, 99))
	}
	for i, l := range c.Lines {
		want(t, "a chain behind others that grew", moved.Lines[i].Chain, append(l.Chain, pt(99, 99)))
	}
}

// R3: a nil slice and an empty one are equivalent, also within structs.
func TestNilAndEmpty(t *testing.T) {
	empty := api.Cartoon{Wall: list(0, 0, 4, 0, 4, 4), Lines: []api.Line{}, Grounds: []api.Ground{{Name: "a", At: pt(3, 1), Work: 1, Colours: []string{}}}}
	plain := cloned(empty)
	plain.Lines, plain.Grounds[0].Colours = nil, nil
	wants(t, "Compile", of(cartoon.Compile(empty)), sheetOf(t, plain), api.OK)
	want(t, "Print", cartoon.Print(empty), cartoon.Print(plain))
	wants(t, "Move", of(cartoon.Move(empty, 0, 0)), plain, api.OK)
	wants(t, "Along", of(cartoon.Along(empty, [][]int{})), nil, api.OK)
	wants(t, "Crossed", of(cartoon.Crossed(empty, []int{})), nil, api.OK)
	want(t, "CheckSheet", cartoon.CheckSheet(api.Sheet{Cells: []api.Cell{}, Seams: []api.Seam{}}), api.OK)
	want(t, "CheckSheet without faces", cartoon.CheckSheet(api.Sheet{Cells: []api.Cell{{Faces: []int{}, Work: 1, High: 1}}}), api.ErrArg)
	wants(t, "Colours", of(cartoon.Colours(plan(), []int{})), nil, api.OK)
}
