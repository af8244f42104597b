package cartoon_test

import (
	"strings"
	"testing"

	"giornata/api"
	"giornata/cartoon"
)

func named(n string) func(c *api.Cartoon) {
	return func(c *api.Cartoon) { c.Lines[1].Name = n }
}

// lined adds lines with as many points each.
func lined(lines, points int) func(c *api.Cartoon) {
	return func(c *api.Cartoon) {
		c.Lines = nil
		for i := range lines {
			c.Lines = append(c.Lines, api.Line{Name: numbered("l", i), Kind: api.LineSeam, Chain: make([]api.Point, points)})
		}
	}
}

func grounded(n int) func(c *api.Cartoon) {
	return func(c *api.Cartoon) {
		c.Grounds = nil
		for i := range n {
			c.Grounds = append(c.Grounds, api.Ground{Name: numbered("g", i), Work: 1})
		}
	}
}

func coloured(n int) func(c *api.Cartoon) {
	return func(c *api.Cartoon) {
		c.Grounds[1].Colours = nil
		for i := range n {
			c.Grounds[1].Colours = append(c.Grounds[1].Colours, numbered("c", i))
		}
	}
}

type check struct {
	name   string
	change func(c *api.Cartoon)
	want   api.Errno
}

var checks = []check{
	{"no change", func(c *api.Cartoon) {}, api.OK},
	{"a wall of two points", func(c *api.Cartoon) { c.Wall = c.Wall[:2] }, api.ErrLimit},
	{"a wall of three points", func(c *api.Cartoon) { c.Wall = c.Wall[:3] }, api.OK},
	{"a wall of 60 points", func(c *api.Cartoon) { c.Wall = make([]api.Point, 60) }, api.OK},
	{"a wall of 61 points", func(c *api.Cartoon) { c.Wall = make([]api.Point, 61) }, api.ErrLimit},
	{"no wall", func(c *api.Cartoon) { c.Wall = nil }, api.ErrLimit},
	{"the wall to the left", func(c *api.Cartoon) { c.Wall[0].X = -1 }, api.ErrArg},
	{"the wall below", func(c *api.Cartoon) { c.Wall[3].Y = -1 }, api.ErrArg},
	{"the greatest coordinates", func(c *api.Cartoon) { c.Wall[2] = pt(10000, 10000) }, api.OK},
	{"the wall to the right", func(c *api.Cartoon) { c.Wall[2].X = 10001 }, api.ErrArg},
	{"the wall above", func(c *api.Cartoon) { c.Wall[2].Y = 10001 }, api.ErrArg},
	{"no lines", func(c *api.Cartoon) { c.Lines = nil }, api.OK},
	{"60 lines", lined(60, 2), api.OK},
	{"61 lines", lined(61, 2), api.ErrLimit},
	{"lines of 40 points", lined(7, 40), api.OK},
	{"a line of 41 points", lined(1, 41), api.ErrLimit},
	{"300 segments", lined(50, 7), api.OK},
	{"301 segments", lined(43, 8), api.ErrLimit},
	{"a line of a point", func(c *api.Cartoon) { c.Lines[1].Chain = c.Lines[1].Chain[:1] }, api.ErrLimit},
	{"a line without points", func(c *api.Cartoon) { c.Lines[1].Chain = nil }, api.ErrLimit},
	{"a line to nowhere", func(c *api.Cartoon) { c.Lines[1].Chain[1] = c.Lines[1].Chain[0] }, api.OK},
	{"an empty name", named(""), api.ErrForm},
	{"a name of a letter", named("a"), api.OK},
	{"the last letter", named("z"), api.OK},
	{"a name of 24 bytes", named("a" + strings.Repeat("9", 23)), api.OK},
	{"a name of 25 bytes", named("a" + strings.Repeat("9", 24)), api.ErrForm},
	{"a name with a hyphen", named("b-0-"), api.OK},
	{"a hyphen first", named("-b"), api.ErrForm},
	{"a digit first", named("0b"), api.ErrForm},
	{"a great letter", named("bB"), api.ErrForm},
	{"a great letter first", named("B"), api.ErrForm},
	{"a byte before a", named("a`"), api.ErrForm},
	{"a byte behind z", named("a{"), api.ErrForm},
	{"a byte before 0", named("a/"), api.ErrForm},
	{"a byte behind 9", named("a:"), api.ErrForm},
	{"a blank in a name", named("a b"), api.ErrForm},
	{"a letter of two bytes", named("aé"), api.ErrForm},
	{"a byte that is no letter", named("a\xff"), api.ErrForm},
	{"the name of an earlier line", named("left"), api.ErrTwice},
	{"the name of a ground", named("sky"), api.OK},
	{"no kind", func(c *api.Cartoon) { c.Lines[1].Kind = 0 }, api.ErrArg},
	{"an unknown kind", func(c *api.Cartoon) { c.Lines[1].Kind = 3 }, api.ErrArg},
	{"a price below 0", func(c *api.Cartoon) { c.Lines[0].Price = -1 }, api.ErrArg},
	{"the price 0", func(c *api.Cartoon) { c.Lines[0].Price = 0 }, api.OK},
	{"the price 1000", func(c *api.Cartoon) { c.Lines[0].Price = 1000 }, api.OK},
	{"the price 1001", func(c *api.Cartoon) { c.Lines[0].Price = 1001 }, api.ErrArg},
	{"a price of a never line", func(c *api.Cartoon) { c.Lines[1].Price = 1 }, api.ErrArg},
	{"a price below 0 of a never line", func(c *api.Cartoon) { c.Lines[1].Price = -1 }, api.ErrArg},
	{"a line to the left", func(c *api.Cartoon) { c.Lines[1].Chain[1].X = -1 }, api.ErrArg},
	{"a line above", func(c *api.Cartoon) { c.Lines[1].Chain[0].Y = 10001 }, api.ErrArg},
	{"no grounds", func(c *api.Cartoon) { c.Grounds = nil }, api.OK},
	{"100 grounds", grounded(100), api.OK},
	{"101 grounds", grounded(101), api.ErrLimit},
	{"8 colours", coloured(8), api.OK},
	{"9 colours", coloured(9), api.ErrLimit},
	{"no colours", coloured(0), api.OK},
	{"a ground without a name", func(c *api.Cartoon) { c.Grounds[2].Name = "" }, api.ErrForm},
	{"a colour without a name", func(c *api.Cartoon) { c.Grounds[1].Colours[1] = "A" }, api.ErrForm},
	{"the name of an earlier ground", func(c *api.Cartoon) { c.Grounds[3].Name = "cheek" }, api.ErrTwice},
	{"the name of a line", func(c *api.Cartoon) { c.Grounds[3].Name = "nose" }, api.OK},
	{"a colour with the name of its ground", func(c *api.Cartoon) { c.Grounds[3].Name = "umber" }, api.OK},
	{"a colour twice", func(c *api.Cartoon) { c.Grounds[0].Colours[1] = "azurite" }, api.ErrTwice},
	{"no work", func(c *api.Cartoon) { c.Grounds[0].Work = 0 }, api.ErrArg},
	{"the work 1", func(c *api.Cartoon) { c.Grounds[0].Work = 1 }, api.OK},
	{"the work 1000", func(c *api.Cartoon) { c.Grounds[0].Work = 1000 }, api.OK},
	{"the work 1001", func(c *api.Cartoon) { c.Grounds[0].Work = 1001 }, api.ErrArg},
	{"a ground to the right", func(c *api.Cartoon) { c.Grounds[0].At.X = 10001 }, api.ErrArg},
	{"a ground below", func(c *api.Cartoon) { c.Grounds[3].At.Y = -1 }, api.ErrArg},
}

// orders are cartoons with two errors, of which the first one is that of the document's order.
var orders = []check{
	{"points of the wall, then their coordinates", func(c *api.Cartoon) { c.Wall = list(-1, 0) }, api.ErrLimit},
	{"the wall, then lines", func(c *api.Cartoon) { c.Wall[0].X = -1; c.Lines[0].Name = "" }, api.ErrArg},
	{"points of a line, then its name", func(c *api.Cartoon) { c.Lines[1].Chain, c.Lines[1].Name = nil, "" }, api.ErrLimit},
	{"a name, then a name twice", func(c *api.Cartoon) { c.Lines[0].Name, c.Lines[1].Name, c.Lines[2].Name = "x", "", "x" }, api.ErrForm},
	{"a name twice, then a kind", func(c *api.Cartoon) { c.Lines[1].Name, c.Lines[1].Kind = "left", 0 }, api.ErrTwice},
	{"a name, then a price", func(c *api.Cartoon) { c.Lines[1].Name, c.Lines[1].Price = "", 1 }, api.ErrForm},
	{"an earlier line first", func(c *api.Cartoon) { c.Lines[1].Price, c.Lines[2].Chain = 1, nil }, api.ErrArg},
	{"a line of too many points, then an earlier one", func(c *api.Cartoon) { c.Lines[0].Kind = 0; c.Lines[1].Chain = nil }, api.ErrArg},
	{"the price of the line with too many segments", func(c *api.Cartoon) { lined(43, 8)(c); c.Lines[42].Price = -1 }, api.ErrArg},
	{"too many segments, then the next line", func(c *api.Cartoon) { lined(44, 8)(c); c.Lines[43].Price = -1 }, api.ErrLimit},
	{"too many lines, then the name", func(c *api.Cartoon) { lined(61, 2)(c); c.Lines[60].Name = "" }, api.ErrLimit},
	{"too many lines behind a bad one", func(c *api.Cartoon) { lined(61, 2)(c); c.Lines[59].Name = "" }, api.ErrForm},
	{"lines, then grounds", func(c *api.Cartoon) { c.Lines[2].Price, c.Grounds[0].Name = -1, "" }, api.ErrArg},
	{"colours, then the name", func(c *api.Cartoon) { coloured(9)(c); c.Grounds[1].Name = "" }, api.ErrLimit},
	{"too many grounds, then the name", func(c *api.Cartoon) { grounded(101)(c); c.Grounds[100].Name = "" }, api.ErrLimit},
	{"a colour's name, then the ground twice", func(c *api.Cartoon) { c.Grounds[1].Name, c.Grounds[1].Colours[0] = "sky", "" }, api.ErrForm},
	{"a ground twice, then its work", func(c *api.Cartoon) { c.Grounds[1].Name, c.Grounds[1].Work = "sky", 0 }, api.ErrTwice},
	{"a colour twice, then its point", func(c *api.Cartoon) { c.Grounds[0].Colours[1] = "azurite"; c.Grounds[0].At.X = -1 }, api.ErrTwice},
	{"an earlier ground first", func(c *api.Cartoon) { c.Grounds[0].Work, c.Grounds[1].Name = 0, "" }, api.ErrArg},
}

// C3: the errors, and their order.
func TestCheck(t *testing.T) {
	for _, x := range append(checks, orders...) {
		if e := cartoon.Check(changed(x.change)); e != x.want {
			t.Errorf("Check with %s: %d, want %d", x.name, e, x.want)
		}
	}
	if e := cartoon.Check(api.Cartoon{}); e != api.ErrLimit {
		t.Errorf("Check of nothing: %d", e)
	}
}

// C4 to C7, C10 to C13: a cartoon that is not well-formed has the error of Check in every function.
func TestCheckComesFirst(t *testing.T) {
	for _, x := range append(checks, orders...) {
		if x.want == api.OK {
			continue
		}
		c := changed(x.change)
		wants(t, "Segments with "+x.name, segmentsOf(c), owned{}, x.want)
		wants(t, "Map with "+x.name, of(cartoon.Map(c)), api.Map{}, x.want)
		wants(t, "GroundOf with "+x.name, of(cartoon.GroundOf(c)), nil, x.want)
		wants(t, "Cells with "+x.name, of(cartoon.Cells(c)), nil, x.want)
		wants(t, "Compile with "+x.name, of(cartoon.Compile(c)), api.Sheet{}, x.want)
		wants(t, "At with "+x.name, atOf(c, pt(-1, 0)), place{}, x.want)
		wants(t, "Along with "+x.name, of(cartoon.Along(c, [][]int{{-1}})), nil, x.want)
		wants(t, "Crossed with "+x.name, of(cartoon.Crossed(c, []int{-1})), nil, x.want)
		wants(t, "Idle with "+x.name, of(cartoon.Idle(c)), nil, x.want)
		wants(t, "Move with "+x.name, of(cartoon.Move(c, tiny, 0)), api.Cartoon{}, x.want)
		wants(t, "Mirror with "+x.name, of(cartoon.Mirror(c, -1)), api.Cartoon{}, x.want)
		wants(t, "Enlarge with "+x.name, of(cartoon.Enlarge(c, 0)), api.Cartoon{}, x.want)
		want(t, "Print with "+x.name, cartoon.Print(c), "")
	}
}
