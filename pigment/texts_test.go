package pigment_test

import (
	"strconv"
	"strings"
	"testing"

	"giornata/api"
	"giornata/pigment"
)

// F2, P6.6: the line of each kind, and the rule of each line.
func TestWriteAndRead(t *testing.T) {
	for _, x := range []struct {
		r    api.Rule
		line string
	}{
		{fast(1, 0, "earth"), "1 0 fast earth"},
		{dry(1000000, 100000, longest), "1000000 100000 dry " + longest},
		{beside(20, 10, "a", "a"), "20 10 beside a a"},
		{over(3, 0, "fast", "void"), "3 0 over fast void"},
		{group(4, 7, "ochre", "earth"), "4 7 group ochre earth"},
		{void(6, 20, 1000000), "6 20 void 1000000"},
	} {
		wants(t, "Write", of(pigment.Write(x.r)), x.line, api.OK)
		wants(t, "Read of "+x.line, of(pigment.Read(x.line)), x.r, api.OK)
	}
	for _, r := range wellFormedRules {
		line, e := pigment.Write(r)
		want(t, "the error of Write", e, api.OK)
		wants(t, "Read of "+line, of(pigment.Read(line)), r, api.OK)
	}
	for _, r := range malformed() {
		wants(t, "Write of "+spelt(r), of(pigment.Write(r)), "", api.ErrArg)
	}
	d := &dice{3}
	for range 300 {
		r := d.rule()
		line, e := pigment.Write(r)
		want(t, "the error of Write", e, api.OK)
		wants(t, "Read of "+line, of(pigment.Read(line)), r, api.OK)
	}
}

// F2: lines of no rule.
func TestReadNothing(t *testing.T) {
	for _, line := range []string{
		"", " ", "#", "# 1 0 fast a", "1", "1 0", "1 0 fast", "1 0 fast ", "1 0  a", "1 0 ", "1  0 a", "1 0 fast a b", "1 0 fast a ", " 1 0 fast a", "1 0 fast  a", "1  0 fast a", "1 0  fast a", "1 0 fast a\n", "1 0 fast a\r", "1\t0 fast a", "1 0 fast\ta",
		"1 0 Fast a", "1 0 fas a", "1 0 fasts a", "1 0 f a", "1 0 1 a", "1 0 over a", "1 0 over a b c", "1 0 over  a", "1 0 beside a", "1 0 beside a b 1", "1 0 group a a", "1 0 group a", "1 0 dry", "1 0 dry a b", "1 0 fast 0", "1 0 fast A", "1 0 over a B", "1 0 over A b",
		"1 0 void", "1 0 void 1", "1 0 void 0", "1 0 void a", "1 0 void -1", "1 0 void 01", "1 0 void +2", "1 0 void 2 3", "1 0 void 2 ", "1 0 void 1000001", "1 0 void 18446744073709551618", "1 0 void  2", "1 0 void 2a", "1 0 void 1_0", "1 0 void 0x2",
		"0 0 fast a", "1000001 0 fast a", "-1 0 fast a", "+1 0 fast a", "01 0 fast a", "x 0 fast a", "1.0 0 fast a", "18446744073709551617 0 fast a", "9223372036854775808 0 fast a", "1e2 0 fast a", "１ 0 fast a",
		"1 100001 fast a", "1 -1 fast a", "1 -0 fast a", "1 +0 fast a", "1 00 fast a", "1 x fast a", "1  fast a", "1 fast a", "fast a", "0 1 fast", "1 18446744073709551616 fast a", "1 9 9 fast a",
		"1 0 fast a\x00", "1 0 fast \xff", "1 0 fast " + longest + "a", "1 0 over a " + longest + "a", "1 0 fast a#", "1 0 fast a # b",
	} {
		wants(t, "Read of "+strconv.Quote(line), of(pigment.Read(line)), api.Rule{}, api.ErrForm)
	}
}

// F3, P6.6: the chapter's book, skipped lines and the end of the last line.
func TestParse(t *testing.T) {
	for _, src := range []string{
		chapterSource,
		strings.TrimSuffix(chapterSource, "\n"),
		"\n\n" + chapterSource + "\n\n",
		"#\n# 1 0 fast A\n#\xff 1\r\n" + strings.ReplaceAll(chapterSource, "\n", "\n#x\n\n"),
		chapterSource + "#",
	} {
		wants(t, "Parse of "+strconv.Quote(src), of(pigment.Parse(src)), chapterBook(), api.Fault{})
	}
	for _, src := range []string{"", "\n", "#", "\n#\n\n", strings.Repeat("\n", 20000), "#" + strings.Repeat("x", 19999)} {
		wants(t, "Parse of no rules", of(pigment.Parse(src)), api.Book{}, api.Fault{})
	}
	want(t, "Print", pigment.Print(chapterBook()), chapterSource)
	want(t, "Print of no rules", pigment.Print(api.Book{}), "")
	want(t, "Print of a book that is not valid", pigment.Print(book(fast(1, 5, "a"), fast(2, 4, "a"))), "")
	want(t, "Print of 201 rules", pigment.Print(many(201)), "")
	wants(t, "Parse of 200 rules", of(pigment.Parse(pigment.Print(many(200)))), many(200), api.Fault{})
	d := &dice{4}
	for range 100 {
		b := d.valid()
		src := pigment.Print(b)
		wants(t, "Parse of Print", of(pigment.Parse(src)), b, api.Fault{})
		parsed, _ := pigment.Parse("# a comment\n\n" + src)
		want(t, "Print of Parse", pigment.Print(parsed), src)
	}
}

// F3: the first line that is refused, and why.
func TestParseFaults(t *testing.T) {
	for _, x := range []struct {
		name, src string
		e         api.Errno
		line      int
	}{
		{"a line without a form", "1 0 fast a\nx\n1 0 fast a\n", api.ErrForm, 2},
		{"a blank", "\n \n", api.ErrForm, 2},
		{"a blank before a comment", "#\n\n #\n", api.ErrForm, 3},
		{"a line of another system", "1 0 fast a\r\n", api.ErrForm, 1},
		{"a comment behind a rule", "1 0 fast a # b", api.ErrForm, 1},
		{"a rule that is not well-formed", "1 0 group a a\n", api.ErrForm, 1},
		{"an Id twice", "1 0 fast a\n\n#\n1 0 dry a", api.ErrTwice, 4},
		{"an earlier day", "1 5 fast a\n2 4 dry a\n3 0 x", api.ErrTime, 2},
		{"a void of nothing", "1 0 void 2\n2 0 fast a\n", api.ErrNone, 1},
		{"a void of a void", "1 0 fast a\n2 0 void 1\n3 0 void 2\n", api.ErrNone, 3},
		{"a circle", "1 0 group a b\n2 0 group b c\n3 0 void 1\n4 0 group c a\n", api.ErrLoop, 4},
		{"201 rules", pigment.Print(many(200)) + "#\n201 300 fast a\n", api.ErrLimit, 202},
		{"201 rules, of which the last has no form", pigment.Print(many(200)) + "x\n", api.ErrForm, 201},
		{"201 rules, of which the last is there", pigment.Print(many(200)) + "1 0 fast a\n", api.ErrLimit, 201},
		{"a source that is too long", strings.Repeat("\n", 20001), api.ErrLimit, 0},
		{"a source that is too long, of no form", "x\n" + strings.Repeat("#", 20000), api.ErrLimit, 0},
		{"a long line", strings.Repeat("x", 20000), api.ErrForm, 1},
	} {
		wants(t, "Parse of "+x.name, of(pigment.Parse(x.src)), api.Book{}, api.Fault{Err: x.e, Line: x.line})
	}
}
