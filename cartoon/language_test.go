package cartoon_test

import (
	"strconv"
	"strings"
	"testing"

	"giornata/api"
	"giornata/cartoon"
)

const wall = "wall 0 0 40 0 40 30 0 30\n"

// parsed is a cartoon and the fault that came with it.
type parsed struct {
	c     api.Cartoon
	fault api.Fault
}

func parse(src string) parsed {
	c, fault := cartoon.Parse(src)
	return parsed{c, fault}
}

func faulty(e api.Errno, line int) parsed { return parsed{fault: api.Fault{Err: e, Line: line}} }

// C1: the chapter's cartoon.
func TestParse(t *testing.T) {
	want(t, "Parse of the chapter's source", parse(source), parsed{c: spelt()})
	want(t, "Parse of a wall", parse("wall 0 0 4 0 0 4"), parsed{c: api.Cartoon{Wall: list(0, 0, 4, 0, 0, 4)}})
	src := "wall 10000 0 4 0 0 4\nground a 1000 3 2\nnever b 1 2 3 4 5 6\nground c 1 0 0 a b c d e f g h\nseam d 0 7 8 9 10\n"
	want(t, "Parse of lines in any order", parse(src), parsed{c: api.Cartoon{
		Wall:  list(10000, 0, 4, 0, 0, 4),
		Lines: []api.Line{{Name: "b", Kind: api.LineNever, Chain: list(1, 2, 3, 4, 5, 6)}, {Name: "d", Kind: api.LineSeam, Chain: list(7, 8, 9, 10)}},
		Grounds: []api.Ground{{Name: "a", At: pt(3, 2), Work: 1000},
			{Name: "c", Work: 1, Colours: []string{"a", "b", "c", "d", "e", "f", "g", "h"}}},
	}})
}

// C1: what the chapter says of lines, comments and blanks.
func TestParseLayout(t *testing.T) {
	for _, src := range []string{
		strings.TrimSuffix(source, "\n"),
		source + "\n\n",
		"\n\n  \n# a comment\n   # another one\n" + source,
		strings.ReplaceAll(source, "\n", "#\n"),
		strings.ReplaceAll(source, "\n", " # wall 0 0 # \t\xff\r\n\n"),
		strings.ReplaceAll(source, " ", "   "),
		"  " + strings.ReplaceAll(source, "\n", "  \n   "),
		source + "#",
		source + "   ",
		source + "# the last line lacks its end",
	} {
		want(t, "Parse of "+strconv.Quote(src), parse(src), parsed{c: spelt()})
	}
}

// C1: lines that do not have the form of a line that may stand there.
func TestParseForm(t *testing.T) {
	for _, line := range []string{
		"wall 0 0 4 0 0 4", "wall", "Wall", "walls 1", "seams a 1 2 3 4 5", "never\t", "\t", "\r", ".", "wall# 0 0", "\xff",
		"seam", "seam a", "seam a 1", "seam a 1 2", "seam a 1 2 3 4", "seam a 1 2 3 x", "seam a x 2 3 4 5", "seam 1 2 3 4 5", "seam A 1 2 3 4 5", "seam a 1 2 3 4 5 b",
		"never", "never a", "never a 1", "never a 1 2 3", "never 1 2 3 4", "never a 1 2 3 -4", "never a 1 2 3 +4", "never a b 1 2 3 4", "never a- 1 2 3 4.", "never -a 1 2 3 4",
		"ground", "ground a", "ground a 1", "ground a 1 2", "ground a 1 2 x", "ground a x 2 3", "ground 1 1 2 3", "ground a 1 2 3 4", "ground a 1 2 3 b 4", "ground a 1 2 3 b C", "ground a 1 2 3 b# c\nx",
		"never a 01 2 3 4", "never a 00 2 3 4", "never a 0x1 2 3 4", "never a 1234567890 2 3 4", "never a 1_0 2 3 4", "never a 1\t2 3 4 5", "never a １ 2 3 4",
		"ground " + strings.Repeat("a", 25) + " 1 2 3", "ground a 1 2 3 " + strings.Repeat("a", 25),
		"never a\t1 2 3 4", "never a 1 2 3 4\r",
		// Check would have another error for these.
		"never A 1 2", "seam A 1001 1 2", "ground a 1 2 3 b c d e f g h i J", "ground A 1 2 3 b c d e f g h i j",
	} {
		number := 2
		if strings.Contains(line, "\n") {
			number = 3 // the line behind a good one
		}
		want(t, "Parse of a wall and "+strconv.Quote(line), parse(wall+line), faulty(api.ErrForm, number))
		want(t, "Parse of "+strconv.Quote(line)+" before others", parse(wall+line+"\n"+source), faulty(api.ErrForm, number))
	}
	for _, line := range []string{"wall", "wall 1", "wall 0 0 4 0 0", "wall a 0 0 4 0 0 4", "wall 0 0 4 0 0 x", "wall 0 0 4 0 0 04", "wall -1 0 4 0 0 4", "seam a 1 0 0 1 1", "never a 0 0 1 1", "ground a 1 0 0", "x"} {
		want(t, "Parse of "+line, parse(line), faulty(api.ErrForm, 1))
		want(t, "Parse of lines and "+line, parse("# \n\n"+line+"\n"+wall), faulty(api.ErrForm, 3))
	}
}

// C1: lines whose form is right, but for which Check has an error.
func TestParseCheck(t *testing.T) {
	points := func(n int) string { return strings.Repeat(" 1 1", n) }
	rows := func(n int, row func(name string) string) string {
		var out string
		for i := range n {
			out += row(numbered("x", i)) + "\n"
		}
		return out
	}
	never := func(name string) string { return "never " + name + " 0 0 1 1" }
	long := func(name string) string { return "never " + name + points(8) }
	ground := func(name string) string { return "ground " + name + " 1 0 0" }
	for _, x := range []struct {
		src  string
		want parsed
	}{
		{"wall 0 0 4 0", faulty(api.ErrLimit, 1)},
		{"\nwall" + points(61), faulty(api.ErrLimit, 2)},
		{"wall 0 0 4 0 0 10001", faulty(api.ErrArg, 1)},
		{"wall 0 0 4 0 0 999999999", faulty(api.ErrArg, 1)},
		{"wall 0 0 4 0\n" + wall, faulty(api.ErrLimit, 1)},
		{"wall 0 0 4 0\nx", faulty(api.ErrLimit, 1)},
		{wall + "seam a 1 0 0", faulty(api.ErrLimit, 2)},
		{wall + "never a" + points(41), faulty(api.ErrLimit, 2)},
		{wall + "never a 0 0 1 1\n\nseam a 1 0 0 1 1", faulty(api.ErrTwice, 4)},
		{wall + "seam a 1001 0 0 1 1", faulty(api.ErrArg, 2)},
		{wall + "seam a 1000 0 0 1 1\nseam b 999999999 0 0 1 1", faulty(api.ErrArg, 3)},
		{wall + "never a 0 0 10001 1", faulty(api.ErrArg, 2)},
		{wall + rows(61, never), faulty(api.ErrLimit, 62)},
		{wall + rows(60, never) + ground("x") + "\n" + never("zz"), faulty(api.ErrLimit, 63)},
		{wall + rows(43, long), faulty(api.ErrLimit, 44)},
		{wall + rows(42, long) + ground("x") + "\n" + long("zz"), faulty(api.ErrLimit, 45)},
		{wall + rows(101, ground), faulty(api.ErrLimit, 102)},
		{wall + "ground a 1 2 3 a b c d e f g h i", faulty(api.ErrLimit, 2)},
		{wall + "ground a 1 2 3\nground a 1 2 3", faulty(api.ErrTwice, 3)},
		{wall + "ground a 1 2 3 x y x", faulty(api.ErrTwice, 2)},
		{wall + "ground a 0 2 3", faulty(api.ErrArg, 2)},
		{wall + "ground a 1001 2 3", faulty(api.ErrArg, 2)},
		{wall + "ground a 1 10001 3", faulty(api.ErrArg, 2)},
		// A line behind grounds has its own error, and the first line with one decides.
		{wall + "ground a 1 2 3\nseam a 1001 0 0 1 1", faulty(api.ErrArg, 3)},
		{wall + "ground a 0 2 3\nseam a 1 0 0", faulty(api.ErrArg, 2)},
		{wall + "seam a 1 0 0\nseam 1", faulty(api.ErrLimit, 2)},
		{wall + "seam a 1001 0 0 1 1 1", faulty(api.ErrForm, 2)},
	} {
		want(t, "Parse of "+strconv.Quote(x.src), parse(x.src), x.want)
	}
	for _, src := range []string{wall + rows(60, never), wall + rows(42, long), wall + rows(100, ground), "wall" + points(60), wall + "never a" + points(40)} {
		want(t, "the fault of the most that there may be", parse(src).fault, api.Fault{})
	}
}

// C1: a source without a wall, and one that is too long.
func TestParseNoWall(t *testing.T) {
	for _, src := range []string{"", "\n", "   ", "# wall 0 0 4 0 0 4\n\n"} {
		want(t, "Parse of "+strconv.Quote(src), parse(src), faulty(api.ErrForm, 0))
	}
	full := source + strings.Repeat("#", 20000-len(source))
	want(t, "Parse of 20000 bytes", parse(full), parsed{c: spelt()})
	want(t, "Parse of 20001 bytes", parse(full+"#"), faulty(api.ErrLimit, 0))
	want(t, "Parse of 20001 bytes without a wall", parse(strings.Repeat("x", 20001)), faulty(api.ErrLimit, 0))
}

// C1: the fault is that of the first line with an error, whatever comes behind it; what is read before it has none.
func TestParsePrefixes(t *testing.T) {
	d := &dice{3}
	words := []string{"wall", "seam", "never", "ground", "a", "b", "nose", "0", "1", "10", "10001", "01", "x1", "0 0", "4 0", "4 4", "#", "", "-1"}
	good := []string{"seam a 1 0 0 1 1", "never b 1 1 2 2", "ground a 1 2 3", "ground b 4 5 6 ochre", "never a 1 1 2 2 3 3", "seam b 1001 1 1 1 1", "ground c 0 1 1", ""}
	for range 3000 {
		lines := []string{"wall 0 0 4 0 4 4"}
		for range d.roll(6) {
			line := good[d.roll(len(good))]
			if d.roll(4) == 0 {
				line = words[d.roll(4)]
				for range d.roll(6) {
					line += " " + words[d.roll(len(words))]
				}
			}
			lines = append(lines, line)
		}
		got := parse(strings.Join(lines, "\n"))
		if got.fault.Err == api.OK {
			want(t, "Check of what is read", cartoon.Check(got.c), api.OK)
			continue
		}
		for n := range lines {
			src := strings.Join(lines[:n+1], "\n")
			wanted := api.Fault{}
			if n+1 >= got.fault.Line {
				wanted = got.fault
			}
			want(t, "the fault of "+strconv.Quote(src), parse(src).fault, wanted)
		}
		want(t, "the cartoon with a fault", got.c, api.Cartoon{})
	}
}

// C2: the lines in order, a blank between two words, and a line feed behind each.
func TestPrint(t *testing.T) {
	plain := strings.ReplaceAll(source, "        # a seam from below to above", "")
	want(t, "Print of the chapter's cartoon", cartoon.Print(spelt()), plain)
	want(t, "Print of a wall", cartoon.Print(api.Cartoon{Wall: list(0, 0, 10000, 0, 4, 4)}), "wall 0 0 10000 0 4 4\n")
	c := api.Cartoon{
		Wall:    list(0, 0, 4, 0, 4, 4),
		Lines:   []api.Line{{Name: "b", Kind: api.LineNever, Chain: list(0, 0, 1, 1)}, {Name: "a", Kind: api.LineSeam, Chain: list(1, 1, 2, 2, 3, 3)}},
		Grounds: []api.Ground{{Name: "z", Work: 7}, {Name: "y", At: pt(1, 2), Work: 8, Colours: []string{"q", "p"}}},
	}
	want(t, "Print in order", cartoon.Print(c), "wall 0 0 4 0 4 4\nnever b 0 0 1 1\nseam a 0 1 1 2 2 3 3\nground z 7 0 0\nground y 8 1 2 q p\n")
	want(t, "Print of a cartoon that is not well-formed", cartoon.Print(api.Cartoon{}), "")
}

// C2: nothing is said of the length of a source that is printed.
func TestPrintLong(t *testing.T) {
	c := changed(grounded(100))
	for i := range c.Grounds {
		for j := range 8 {
			c.Grounds[i].Colours = append(c.Grounds[i].Colours, strings.Repeat("a", 20)+numbered("c", j))
		}
	}
	out := cartoon.Print(c)
	if len(out) <= 20000 || !strings.HasSuffix(out, "ch\n") {
		t.Errorf("Print of a long cartoon: %d bytes", len(out))
	}
	want(t, "Parse of it", parse(out), faulty(api.ErrLimit, 0))
}

// P3.5: Parse of Print is the cartoon.
func TestParseOfPrint(t *testing.T) {
	for _, x := range checks {
		c := changed(x.change)
		if src := cartoon.Print(c); x.want == api.OK && len(src) <= 20000 {
			want(t, "Parse of Print with "+x.name, parse(src), parsed{c: c})
		}
	}
	for _, x := range drawings(t, 5, 40) {
		want(t, "Parse of Print", parse(cartoon.Print(x.c)), parsed{c: x.c})
	}
}

// P3.5: comments, blank lines and further blanks change nothing.
func TestParseOfLooseSource(t *testing.T) {
	d := &dice{6}
	for _, x := range drawings(t, 7, 40) {
		var loose strings.Builder
		for _, r := range cartoon.Print(x.c) {
			blanks := strings.Repeat(" ", d.roll(3))
			switch {
			case r == ' ':
				loose.WriteString(" " + blanks)
			case r == '\n' && d.roll(2) == 0:
				loose.WriteString(blanks + "# seam a 1 # 2" + "\n" + blanks + "\n" + blanks)
			case r == '\n':
				loose.WriteString(blanks + "\n" + blanks)
			default:
				loose.WriteRune(r)
			}
		}
		want(t, "Parse of "+loose.String(), parse(loose.String()), parsed{c: x.c})
	}
}
