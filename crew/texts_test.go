package crew_test

import (
	"slices"
	"strconv"
	"strings"
	"testing"

	"giornata/api"
	"giornata/crew"
)

// chapterText is the text of the yard Y of the chapter.
const chapterText = "yard 1\nseason 600 500\nseason 0 0\nseason 0 0\nseason 0 0\nseason 0 0\nseason 0 0\nseason 0 0\nseason 0 0\nseason 0 0\nseason 0 0\nseason 0 0\nseason 0 0\nclosed 3\npit 0 2 2\npit 0 5 9\nmaster ann 0 100 4\n"

// darkness is the lines of twelve seasons without light.
var darkness = strings.Repeat("season 0 0\n", 12)

// G13, P7.7: the texts of yards.
func TestWriteAndReadYard(t *testing.T) {
	seasons := brightYard()
	var lines strings.Builder
	for i := range seasons.Seasons {
		seasons.Seasons[i] = api.Season{Light: i, Wet: 1440 - i}
		lines.WriteString("season " + strconv.Itoa(i) + " " + strconv.Itoa(1440-i) + "\n")
	}
	seasons.Pits, seasons.Masters = nil, nil
	for _, x := range []struct {
		y    api.Yard
		text string
	}{
		{chapterYard(), chapterText},
		{api.Yard{}, "yard 0\n" + darkness + "closed\n"},
		{seasons, "yard 0\n" + lines.String() + "closed\n"},
		{api.Yard{Dry: 30, Closed: p(0, 7, 10, 100000)}, "yard 30\n" + darkness + "closed 0 7 10 100000\n"},
		{api.Yard{Pits: pits(100000, 10000, 100, 0, 0, 1)}, "yard 0\n" + darkness + "closed\npit 100000 10000 100\npit 0 0 1\n"},
		{api.Yard{Masters: []api.Master{master(longest, 0, 100001, 9), master("pit", 7, 8, 1), master("pit", 7, 8, 1)}}, "yard 0\n" + darkness + "closed\nmaster " + longest + " 0 100001 9\nmaster pit 7 8 1\nmaster pit 7 8 1\n"},
	} {
		wants(t, "WriteYard", of(crew.WriteYard(x.y)), x.text, api.OK)
		wants(t, "ReadYard", of(crew.ReadYard(x.text)), x.y, api.OK)
	}
	text, e := crew.WriteYard(fullYard())
	want(t, "the error of WriteYard", e, api.OK)
	wants(t, "ReadYard of as much as may be", of(crew.ReadYard(text)), fullYard(), api.OK)
	for _, x := range tooMany {
		wants(t, "WriteYard with "+x.name, of(crew.WriteYard(edited(x))), "", api.ErrLimit)
	}
	for _, x := range unnamed {
		wants(t, "WriteYard with "+x.name, of(crew.WriteYard(edited(x))), "", api.ErrForm)
	}
	for _, x := range outOfRange {
		wants(t, "WriteYard with "+x.name, of(crew.WriteYard(edited(x))), "", api.ErrArg)
	}
	d := &dice{12}
	for range 200 {
		y := d.yard(offsets[d.roll(len(offsets))])
		y.Closed = slices.DeleteFunc(y.Closed, func(day int) bool { return day > 100000 })
		text, e := crew.WriteYard(y)
		want(t, "the error of WriteYard", e, api.OK)
		wants(t, "ReadYard of WriteYard", of(crew.ReadYard(text)), y, api.OK)
	}
}

// G13: texts of no yard.
func TestReadNoYard(t *testing.T) {
	lines := strings.SplitAfter(chapterText, "\n")
	lines = lines[:len(lines)-1]
	none := func(name, text string) {
		t.Helper()
		wants(t, "ReadYard of "+name+": "+strconv.Quote(text), of(crew.ReadYard(text)), api.Yard{}, api.ErrForm)
	}
	for _, text := range []string{"", "\n", " ", "yard 1", "yard 1\n", "yard\n", "closed\n", "\xff", darkness, "yard 0\n" + darkness, "yard 0\nclosed\n", "yard 0\n" + darkness + darkness + "closed\n", strings.Repeat("\n", 100), strings.Repeat(" ", 100)} {
		none("too little", text)
	}
	none("no last line feed", strings.TrimSuffix(chapterText, "\n"))
	none("a line behind", chapterText+"\n")
	none("something behind", chapterText+"x")
	none("two yards", chapterText+chapterText)
	none("lines of another system", strings.ReplaceAll(chapterText, "\n", "\r\n"))
	for i, line := range lines {
		with := func(other ...string) string {
			return strings.Join(slices.Concat(lines[:i], other, lines[i+1:]), "")
		}
		bare := strings.TrimSuffix(line, "\n")
		for _, other := range []string{" " + line, bare + " \n", "\n" + line, bare + " 0 x\n", bare + " -1\n", strings.Replace(line, " ", "  ", 1), strings.Replace(line, " ", "\t", 1), strings.Replace(line, " ", "", 1), strings.Replace(line, " ", " +", 1),
			strings.ToUpper(line), "x" + line, bare + "a\n", bare + "\x00\n", "# a comment\n" + line, bare + " 99999999999999999999\n", bare + bare + "\n"} {
			none("a changed line", with(other))
		}
		if !strings.HasPrefix(line, "master") {
			none("a leading zero", with(strings.Replace(line, " ", " 0", 1)))
			none("a number below 0", with(strings.Replace(line, " ", " -", 1)))
		}
		if strings.HasPrefix(line, "yard") || strings.HasPrefix(line, "season") || strings.HasPrefix(line, "closed") {
			none("a line too few", with())
			none("a line twice", with(line, line))
		}
	}
	for _, x := range []struct{ old, other string }{
		{"yard 1", "yard 31"}, {"yard 1", "yard 1 1"}, {"season 600 500", "season 600"}, {"season 600 500", "season 600 500 1"}, {"season 600 500", "season 1441 500"}, {"season 600 500", "season 600 1441"},
		{"closed 3", "closed 3 3"}, {"closed 3", "closed 3 2"}, {"closed 3", "closed 100001"}, {"closed 3", "closed 3 x"}, {"closed 3", "closed "}, {"closed 3", "closed 18446744073709551619"},
		{"pit 0 2 2", "pit 0 2"}, {"pit 0 2 2", "pit 0 2 2 2"}, {"pit 0 2 2", "pit 0 2 0"}, {"pit 0 2 2", "pit 0 2 101"}, {"pit 0 2 2", "pit 100001 2 2"}, {"pit 0 2 2", "pit 0 10001 2"}, {"pit 0 2 2", "pit"}, {"pit 0 2 2", "pits 0 2 2"},
		{"master ann 0 100 4", "master ann 0 100"}, {"master ann 0 100 4", "master ann 0 100 4 4"}, {"master ann 0 100 4", "master Ann 0 100 4"}, {"master ann 0 100 4", "master  0 100 4"}, {"master ann 0 100 4", "master 0 100 4"}, {"master ann 0 100 4", "master ann 0 100 10"},
		{"master ann 0 100 4", "master ann 0 0 4"}, {"master ann 0 100 4", "master ann 0 100002 4"}, {"master ann 0 100 4", "master ann 00 100 4"}, {"master ann 0 100 4", "master ann -0 100 4"}, {"master ann 0 100 4", "master ann 0 +100 4"}, {"master ann 0 100 4", "master " + longest + "a 0 100 4"},
		{"pit 0 5 9\nmaster ann 0 100 4", "master ann 0 100 4\npit 0 5 9"}, {"closed 3\npit 0 2 2", "pit 0 2 2\nclosed 3"}, {"yard 1\nseason 600 500", "season 600 500\nyard 1"},
	} {
		none("another line", strings.Replace(chapterText, x.old, x.other, 1))
	}
	none("9 pits", "yard 0\n"+darkness+"closed\n"+strings.Repeat("pit 0 0 1\n", 9))
	none("13 masters", "yard 0\n"+darkness+"closed\n"+strings.Repeat("master a 0 1 1\n", 13))
	wants(t, "ReadYard of 8 pits", of(crew.ReadYard("yard 0\n"+darkness+"closed\n"+strings.Repeat("pit 0 0 1\n", 8))), api.Yard{Pits: slices.Repeat(pits(0, 0, 1), 8)}, api.OK)
	var days strings.Builder
	for day := range 201 {
		days.WriteString(" " + strconv.Itoa(day))
	}
	none("201 closed days", "yard 0\n"+darkness+"closed"+days.String()+"\n")
}

// G13, P7.7: any texts are those of what is read, or have no form.
func TestReadAnyText(t *testing.T) {
	d := &dice{13}
	read := 0
	for range 4000 {
		text := []byte(chapterText)
		for range d.roll(3) {
			at := d.roll(len(text))
			text = slices.Replace(text, at, at+d.roll(2), []byte("0123456789 \nabz-pym")[d.roll(19)])
		}
		y, e := crew.ReadYard(string(text))
		if e != api.OK {
			wants(t, "ReadYard of "+string(text), of(y, e), api.Yard{}, api.ErrForm)
			continue
		}
		read++
		wants(t, "WriteYard of ReadYard", of(crew.WriteYard(y)), string(text), api.OK)
	}
	want(t, "many are read, and many are not", read > 1000 && read < 3500, true)
}
