package cartoon_test

import (
	"testing"

	"giornata/api"
	"giornata/cartoon"
)

// byPoint returns a cartoon whose points are changed one by one.
func byPoint(c api.Cartoon, to func(p api.Point) api.Point) api.Cartoon {
	out := cloned(c)
	for i, p := range out.Wall {
		out.Wall[i] = to(p)
	}
	for _, l := range out.Lines {
		for i, p := range l.Chain {
			l.Chain[i] = to(p)
		}
	}
	for i := range out.Grounds {
		out.Grounds[i].At = to(out.Grounds[i].At)
	}
	return out
}

// C13: all points are moved.
func TestMove(t *testing.T) {
	for _, x := range []struct {
		dx, dy int
		want   api.Errno
	}{
		{0, 0, api.OK}, {3, 7, api.OK}, {9960, 0, api.OK}, {9961, 0, api.ErrArg}, {0, 9970, api.OK}, {0, 9971, api.ErrArg},
		{-1, 0, api.ErrArg}, {0, -1, api.ErrArg}, {huge, 0, api.ErrArg}, {0, huge, api.ErrArg}, {tiny, 0, api.ErrArg}, {0, tiny, api.ErrArg}, {huge, huge, api.ErrArg},
	} {
		wanted := api.Cartoon{}
		if x.want == api.OK {
			wanted = byPoint(spelt(), func(p api.Point) api.Point { return pt(p.X+x.dx, p.Y+x.dy) })
		}
		wants(t, "Move", of(cartoon.Move(spelt(), x.dx, x.dy)), wanted, x.want)
	}
	away := changed(func(c *api.Cartoon) { c.Wall = list(5, 7, 9, 7, 9, 9) })
	away.Lines, away.Grounds = away.Lines[:0], away.Grounds[:0]
	wants(t, "Move back", of(cartoon.Move(away, -5, -7)), api.Cartoon{Wall: list(0, 0, 4, 0, 4, 2)}, api.OK)
	wants(t, "Move back too far", of(cartoon.Move(away, -6, 0)), api.Cartoon{}, api.ErrArg)
}

// C13: each X becomes width - X.
func TestMirror(t *testing.T) {
	for _, x := range []struct {
		width int
		want  api.Errno
	}{{40, api.OK}, {41, api.OK}, {10000, api.OK}, {10001, api.ErrArg}, {39, api.ErrArg}, {0, api.ErrArg}, {-1, api.ErrArg}, {huge, api.ErrArg}, {tiny, api.ErrArg}} {
		wanted := api.Cartoon{}
		if x.want == api.OK {
			wanted = byPoint(spelt(), func(p api.Point) api.Point { return pt(x.width-p.X, p.Y) })
		}
		wants(t, "Mirror", of(cartoon.Mirror(spelt(), x.width)), wanted, x.want)
	}
	far := api.Cartoon{Wall: list(10, 0, 40, 0, 40, 30)}
	wants(t, "Mirror of a wall far away", of(cartoon.Mirror(far, 10010)), api.Cartoon{Wall: list(10000, 0, 9970, 0, 9970, 30)}, api.OK)
}

// C13: all coordinates are multiplied.
func TestEnlarge(t *testing.T) {
	for _, x := range []struct {
		k    int
		want api.Errno
	}{{1, api.OK}, {2, api.OK}, {100, api.OK}, {0, api.ErrArg}, {-1, api.ErrArg}, {101, api.ErrArg}, {huge, api.ErrArg}, {tiny, api.ErrArg}} {
		wanted := api.Cartoon{}
		if x.want == api.OK {
			wanted = byPoint(spelt(), func(p api.Point) api.Point { return pt(p.X*x.k, p.Y*x.k) })
		}
		wants(t, "Enlarge", of(cartoon.Enlarge(spelt(), x.k)), wanted, x.want)
	}
	large := api.Cartoon{Wall: list(0, 0, 100, 0, 100, 101)}
	wants(t, "Enlarge", of(cartoon.Enlarge(large, 99)), api.Cartoon{Wall: list(0, 0, 9900, 0, 9900, 9999)}, api.OK)
	wants(t, "Enlarge too much", of(cartoon.Enlarge(large, 100)), api.Cartoon{}, api.ErrArg)
}

// C13: a coordinate of any point may be out of range; nothing is said of maps.
func TestChangesOfAllPoints(t *testing.T) {
	for name, far := range map[string]api.Cartoon{
		"the wall": changed(func(c *api.Cartoon) { c.Wall[1].X = 10000 }),
		"a line":   changed(func(c *api.Cartoon) { c.Lines[2].Chain[1].X = 10000 }),
		"a ground": changed(func(c *api.Cartoon) { c.Grounds[3].At.X = 10000 }),
	} {
		wants(t, "Move of "+name, of(cartoon.Move(far, 1, 0)), api.Cartoon{}, api.ErrArg)
		wants(t, "Mirror of "+name, of(cartoon.Mirror(far, 9999)), api.Cartoon{}, api.ErrArg)
		wants(t, "Enlarge of "+name, of(cartoon.Enlarge(far, 2)), api.Cartoon{}, api.ErrArg)
		wants(t, "Mirror of "+name, of(cartoon.Mirror(far, 10000)), byPoint(far, func(p api.Point) api.Point { return pt(10000-p.X, p.Y) }), api.OK)
	}
}

// P3.4: the sheet of a cartoon that is moved.
func TestSheetOfMoved(t *testing.T) {
	for _, x := range drawings(t, 31, 40) {
		s := sheetOf(t, x.c)
		c, e := cartoon.Move(x.c, 17, 5)
		if e != api.OK {
			t.Fatalf("Move: error %d", e)
		}
		wanted := clonedSheet(s)
		for i := range wanted.Cells {
			wanted.Cells[i].Low += 5
			wanted.Cells[i].High += 5
		}
		want(t, "the sheet of a moved cartoon", sheetOf(t, c), wanted)
		c, e = cartoon.Enlarge(x.c, 7)
		if e != api.OK {
			t.Fatalf("Enlarge: error %d", e)
		}
		wanted = clonedSheet(s)
		for i := range wanted.Cells {
			wanted.Cells[i].Low *= 7
			wanted.Cells[i].High *= 7
		}
		for i := range wanted.Seams {
			wanted.Seams[i].Price *= 7
		}
		want(t, "the sheet of an enlarged cartoon", sheetOf(t, c), wanted)
	}
}

// P3.4: the sheet of a cartoon that is mirrored, where cells are told by their grounds.
func TestSheetOfMirrored(t *testing.T) {
	for _, x := range drawings(t, 32, 60) {
		c, e := cartoon.Mirror(x.c, 100)
		if e != api.OK {
			t.Fatalf("Mirror: error %d", e)
		}
		again, e := cartoon.Mirror(c, 100)
		wants(t, "Mirror twice", of(again, e), x.c, api.OK)
		s, other := sheetOf(t, x.c), sheetOf(t, c)
		to := map[int]int{}
		for _, g := range x.c.Grounds {
			from := atOf(x.c, g.At).value.cell
			now := atOf(c, pt(100-g.At.X, g.At.Y))
			want(t, "the ground", now.value.name, g.Name)
			if was, ok := to[from]; ok && was != now.value.cell {
				t.Fatalf("the cell %d is two in the mirror", from)
			}
			to[from] = now.value.cell
		}
		want(t, "how many cells", len(other.Cells), len(s.Cells))
		want(t, "how many seams", len(other.Seams), len(s.Seams))
		for i, cell := range s.Cells {
			there := other.Cells[to[i]]
			want(t, "Work, Low and High", []int{there.Work, there.Low, there.High, len(there.Faces)}, []int{cell.Work, cell.Low, cell.High, len(cell.Faces)})
			want(t, "Colours", setOf(there.Colours), setOf(cell.Colours))
		}
		for _, seam := range s.Seams {
			there, _ := cartoon.SeamOf(other, to[seam.A], to[seam.B])
			if to[seam.A] > to[seam.B] && there.Upper != api.UpBoth && there.Upper != api.UpNone {
				there.Upper = 3 - there.Upper
			}
			want(t, "the seam", []int{there.Price, int(there.Upper)}, []int{seam.Price, int(seam.Upper)})
		}
	}
}
