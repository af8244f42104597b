package cartoon_test

import (
	"slices"
	"testing"

	"giornata/api"
	"giornata/cartoon"
)

func setOf(l []string) []string { return slices.Sorted(slices.Values(l)) }

// P3.2: each face is in exactly one cell; neighbours share an edge on a seam line; no seam crosses a never line.
func TestFacesOfCells(t *testing.T) {
	for _, x := range drawings(t, 41, 80) {
		s := sheetOf(t, x.c)
		var faces []int
		cellOf := map[int]int{}
		for i, cell := range s.Cells {
			faces = append(faces, cell.Faces...)
			for _, f := range cell.Faces {
				cellOf[f] = i
			}
		}
		slices.Sort(faces)
		want(t, "the faces of all cells", faces, all(x.m.Faces + 1)[1:])
		_, owners, _ := cartoon.Segments(x.c)
		met := map[api.Pair]bool{}
		for _, edge := range x.m.Edges {
			if edge.Line >= 0 && x.c.Lines[owners[edge.Line]].Kind == api.LineSeam {
				a, b := cellOf[edge.Left], cellOf[edge.Right]
				met[api.Pair{A: min(a, b), B: max(a, b)}] = true
			}
		}
		for _, seam := range s.Seams {
			if !met[api.Pair{A: seam.A, B: seam.B}] {
				t.Errorf("the seam %v has no edge on a seam line", seam)
			}
		}
		along, _ := cartoon.Along(x.c, nil)
		wants(t, "Crossed of Along", of(cartoon.Crossed(x.c, along)), nil, api.OK)
	}
}

// P3.3: the work of all cells, and the prices of all seams.
func TestSums(t *testing.T) {
	for _, x := range drawings(t, 42, 60) {
		s := sheetOf(t, x.c)
		work, wanted := 0, 0
		for _, cell := range s.Cells {
			work += cell.Work
		}
		for _, g := range x.c.Grounds {
			wanted += g.Work
		}
		want(t, "the work of all cells", work, wanted)
		price, wanted := 0, 0
		for _, seam := range s.Seams {
			price += seam.Price
		}
		along, _ := cartoon.Along(x.c, nil)
		_, owners, _ := cartoon.Segments(x.c)
		for _, i := range along {
			edge := x.m.Edges[i]
			a, b := x.m.Points[edge.A], x.m.Points[edge.B]
			wanted += x.c.Lines[owners[edge.Line]].Price * (max(a.X-b.X, b.X-a.X) + max(a.Y-b.Y, b.Y-a.Y))
		}
		want(t, "the price of all seams", price, wanted)
	}
}

// P3.6: one ground less, or one more in a face, is ErrGround.
func TestGroundsLessAndMore(t *testing.T) {
	d := &dice{43}
	for _, x := range drawings(t, 44, 30) {
		for i := range x.c.Grounds {
			c := cloned(x.c)
			c.Grounds = slices.Delete(c.Grounds, i, i+1)
			wants(t, "Compile without a ground", of(cartoon.Compile(c)), api.Sheet{}, api.ErrGround)
		}
		for _, p := range middles(x.c) {
			c := cloned(x.c)
			c.Grounds = slices.Insert(c.Grounds, d.roll(len(c.Grounds)+1), api.Ground{Name: "another", At: p, Work: 1})
			wants(t, "Compile with one ground more", of(cartoon.Compile(c)), api.Sheet{}, api.ErrGround)
		}
	}
}

// P3.7: idle lines may become never lines; any seam line that becomes one joins cells.
func TestLinesTurned(t *testing.T) {
	joined := 0
	for _, x := range drawings(t, 45, 60) {
		s := sheetOf(t, x.c)
		idle, _ := cartoon.Idle(x.c)
		for i, l := range x.c.Lines {
			if l.Kind != api.LineSeam {
				continue
			}
			c := cloned(x.c)
			c.Lines[i].Kind, c.Lines[i].Price = api.LineNever, 0
			if now := sheetOf(t, c); slices.Contains(idle, l.Name) {
				want(t, "the sheet without an idle line", now, s)
			} else {
				joined++
				mustJoin(t, s, now)
			}
		}
	}
	if joined == 0 {
		t.Error("no lines that join cells")
	}
}

// mustJoin finds out whether each cell is in one of the others, of which there are fewer.
func mustJoin(t *testing.T, s, now api.Sheet) {
	t.Helper()
	if len(now.Cells) >= len(s.Cells) {
		t.Errorf("%d cells become %d", len(s.Cells), len(now.Cells))
	}
	for _, cell := range s.Cells {
		within := slices.ContainsFunc(now.Cells, func(other api.Cell) bool {
			return !slices.ContainsFunc(cell.Faces, func(f int) bool { return !slices.Contains(other.Faces, f) })
		})
		if !within {
			t.Errorf("the cell %v is parted", cell.Faces)
		}
	}
}
