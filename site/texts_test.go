package site_test

import (
	"slices"
	"strings"
	"testing"

	"giornata/api"
	"giornata/site"
)

// work returns a work with some numbers as its order, and turns of three numbers each.
func work(done int, order []int, numbers ...int) api.Work {
	out := api.Work{Order: order, Done: done}
	for i := 2; i < len(numbers); i += 3 {
		out.Plan.Turns = append(out.Plan.Turns, api.Turn{Day: numbers[i-2], Pit: numbers[i-1], Master: numbers[i]})
	}
	return out
}

// twelve returns a work with as many tasks as there can be.
func twelve() api.Work {
	out := work(12, []int{11, 10, 9, 8, 7, 6, 5, 4, 3, 2, 1, 0})
	for i := range 12 {
		out.Plan.Turns = append(out.Plan.Turns, api.Turn{Day: 100000 - i, Pit: i % 8, Master: i})
	}
	return out
}

// K4: the texts of works.
func TestWorks(t *testing.T) {
	for text, w := range map[string]api.Work{
		"work 0\norder\n":                                {},
		chapterWork:                                      work(0, []int{1, 0}, 0, 0, 0, 2, 0, 0),
		"work 1\norder 0\nturn 100000 7 11\n":            work(1, []int{0}, 100000, 7, 11),
		"work 2\norder 1 0\nturn 9 1 2\nturn 9 1 2\n":    work(2, []int{1, 0}, 9, 1, 2, 9, 1, 2),
		"work 1\norder 0 1\nturn 10 0 10\nturn 0 2 0\n":  work(1, []int{0, 1}, 10, 0, 10, 0, 2, 0),
		"work 0\norder 2 0 1\n" + turns("1 1 1", 3) + "": work(0, []int{2, 0, 1}, 1, 1, 1, 1, 1, 1, 1, 1, 1),
	} {
		wants(t, "PutWork", of(site.PutWork(w)), text, api.OK)
		wants(t, "GetWork of "+text, of(site.GetWork(text)), w, api.OK)
	}
	text, e := site.PutWork(twelve())
	want(t, "the error of PutWork", e, api.OK)
	wants(t, "GetWork of a long work", of(site.GetWork(text)), twelve(), api.OK)
}

func turns(words string, count int) string { return strings.Repeat("turn "+words+"\n", count) }

// K4: works that are not well-formed.
func TestBadWorks(t *testing.T) {
	long := twelve()
	long.Order = append(long.Order, 12)
	long.Plan.Turns = append(long.Plan.Turns, api.Turn{})
	short := twelve()
	short.Plan.Turns = short.Plan.Turns[:11]
	for _, w := range []api.Work{
		long, short, work(-1, nil), work(1, nil), work(2, []int{0}, 1, 1, 1), work(tiny, []int{0}, 1, 1, 1),
		work(0, []int{0}), work(0, nil, 1, 1, 1), work(0, []int{1}, 1, 1, 1), work(0, []int{-1}, 1, 1, 1), work(0, []int{0, 0}, 1, 1, 1, 2, 1, 1), work(0, []int{0, 2}, 1, 1, 1, 2, 1, 1), work(0, []int{0, huge}, 1, 1, 1, 2, 1, 1),
		work(0, []int{0}, -1, 1, 1), work(0, []int{0}, 100001, 1, 1), work(0, []int{0}, 1, -1, 1), work(0, []int{0}, 1, 8, 1), work(0, []int{0}, 1, 1, -1), work(0, []int{0}, 1, 1, 12),
	} {
		wants(t, "PutWork", of(site.PutWork(w)), "", api.ErrArg)
	}
	for _, text := range []string{
		"", "\n", "\n\n", "work 0", "work 0\n", "work 0\norder", "work 0\norder\n\n", "work 0\norder\n ", " work 0\norder\n", "work\norder\n", "work 0 0\norder\n", "Work 0\norder\n", "work 0\norders\n", "work 0\norder \n", "work 0\r\norder\n", "work\t0\norder\n", "work  0\norder\n",
		"work 1\norder\n", "work 00\norder\n", "work -0\norder\n", "work +0\norder\n", "work -1\norder\n", "work x\norder\n", "order\nwork 0\n", "work 99999999999999999999\norder\n",
		"work 0\norder 0\n", "work 0\norder 00\nturn 1 1 1\n", "work 0\norder 1\nturn 1 1 1\n", "work 0\norder 0\nturn 1 1\n", "work 0\norder 0\nturn 1 1 1 1\n", "work 0\norder 0\nturn 1 1 1", "work 0\norder 0\nturn 1 1 1\n\n", "work 0\norder 0\nturn 1 1 1\nturn 1 1 1\n", "work 0\norder 0\nturns 1 1 1\n", "work 0\norder 0\nturn 01 1 1\n", "work 0\norder 0\nturn 1 8 1\n", "work 0\norder 0\nturn 1 1 12\n", "work 0\norder 0\nturn 100001 1 1\n", "work 0\norder 0\nturn 1 1 x\n",
		"work 0\norder 0 0\n" + turns("1 1 1", 2), "work 0\norder 0 1 2 3 4 5 6 7 8 9 10 11 12\n" + turns("1 1 1", 13), strings.Repeat("work 0\norder\n", 500),
	} {
		wants(t, "GetWork of "+text, of(site.GetWork(text)), api.Work{}, api.ErrForm)
	}
}

// K4: the lines of strokes.
func TestStrokes(t *testing.T) {
	for line, x := range map[string]api.Stroke{
		"stroke 0 0 1 lime":               {Colour: "lime", Wet: true},
		"stroke 11 100000 0 a-9-":         {Task: 11, Day: 100000, Colour: "a-9-"},
		"stroke 10 20 1 stroke":           {Task: 10, Day: 20, Colour: "stroke", Wet: true},
		"stroke 1 2 0 " + longest:         {Task: 1, Day: 2, Colour: longest},
		"stroke 1 2 1 x":                  {Task: 1, Day: 2, Colour: "x", Wet: true},
		"stroke 1 2 0 lead-tin-yellow-20": {Task: 1, Day: 2, Colour: "lead-tin-yellow-20"},
	} {
		wants(t, "PutStroke of "+line, of(site.PutStroke(x)), line, api.OK)
		wants(t, "GetStroke of "+line, of(site.GetStroke(line)), x, api.OK)
	}
	for _, x := range []api.Stroke{
		{}, {Task: -1, Colour: "lime"}, {Task: 12, Colour: "lime"}, {Day: -1, Colour: "lime"}, {Day: 100001, Colour: "lime"}, {Colour: "Lime"}, {Colour: "9x"}, {Colour: "-x"}, {Colour: "a b"}, {Colour: "a\n"}, {Colour: "é"}, {Colour: longest + "x"}, {Task: huge, Day: tiny, Colour: "lime"},
	} {
		wants(t, "PutStroke of "+x.Colour, of(site.PutStroke(x)), "", api.ErrArg)
	}
	for _, line := range []string{
		"", " ", "stroke", "stroke 0 0 1", "stroke 0 0 1 ", "stroke 0 0 1 lime ", " stroke 0 0 1 lime", "stroke  0 0 1 lime", "stroke 0 0 1  lime", "stroke 0 0 1 lime\n", "stroke 0 0 1 lime\r", "stroke\t0 0 1 lime", "Stroke 0 0 1 lime", "strokes 0 0 1 lime", "lime 0 0 1 stroke 1",
		"stroke 12 0 1 lime", "stroke -1 0 1 lime", "stroke 00 0 1 lime", "stroke +1 0 1 lime", "stroke 0 100001 1 lime", "stroke 0 01 1 lime", "stroke 0 0 2 lime", "stroke 0 0 01 lime", "stroke 0 0 -1 lime", "stroke 0 0 true lime", "stroke 0 0 1 Lime", "stroke 0 0 1 9", "stroke 0 0 1 " + longest + "x", "stroke 0 0 1 a b", "stroke 0 0 1 0 lime", "stroke x 0 1 lime", "stroke 0 0 0x1 lime", "stroke 99999999999999999999 0 1 lime",
	} {
		wants(t, "GetStroke of "+line, of(site.GetStroke(line)), api.Stroke{}, api.ErrForm)
	}
}

// P10.5: texts and what they stand for invert each other.
func TestTextsInverted(t *testing.T) {
	d := &dice{3}
	for range 300 {
		w := twelve()
		n := d.roll(13)
		w.Order = slices.DeleteFunc(w.Order, func(i int) bool { return i >= n })
		w.Plan.Turns, w.Done = w.Plan.Turns[:n], d.roll(n+1)
		text, e := site.PutWork(w)
		want(t, "the error of PutWork", e, api.OK)
		wants(t, "GetWork of "+text, of(site.GetWork(text)), w, api.OK)
		text = d.spoilt(text)
		if got, e := site.GetWork(text); e == api.OK {
			wants(t, "PutWork of what was got", of(site.PutWork(got)), text, api.OK)
		} else {
			wants(t, "GetWork of "+text, of(got, e), api.Work{}, api.ErrForm)
		}
		line, e := site.PutStroke(api.Stroke{Task: d.roll(12), Day: d.roll(1000), Wet: d.roll(2) > 0, Colour: d.pick("lime", "x", longest)})
		want(t, "the error of PutStroke", e, api.OK)
		line = d.spoilt(line)
		if got, e := site.GetStroke(line); e == api.OK {
			wants(t, "PutStroke of what was got", of(site.PutStroke(got)), line, api.OK)
		} else {
			wants(t, "GetStroke of "+line, of(got, e), api.Stroke{}, api.ErrForm)
		}
	}
}
