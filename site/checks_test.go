package site_test

import (
	"slices"
	"strconv"
	"strings"
	"testing"

	"giornata/api"
	"giornata/cartoon"
	"giornata/crew"
	"giornata/days"
	"giornata/site"
)

// The folders of the chapter's example, from no page to the work.
func drawn(t *testing.T) folder {
	t.Helper()
	return folder{t: t}.takes(0, api.DosCartoon, chapterCartoon)
}

func divided(t *testing.T) folder {
	t.Helper()
	return drawn(t).takes(0, api.DosLimits, chapterLimits).takes(0, api.DosDivision, twoDays)
}

func planned(t *testing.T) folder {
	t.Helper()
	return divided(t).takes(0, api.DosYard, chapterYard()).takes(0, api.DosPlan, chapterWork)
}

// K5: what pages say.
func TestTold(t *testing.T) {
	want(t, "Check of no pages", site.Check(nil), api.Finding{Ok: true})
	want(t, "Told of no pages", site.Told(nil), api.Account{})
	c, _ := cartoon.Parse(chapterCartoon)
	s, _ := cartoon.Compile(c)
	y, _ := crew.ReadYard(chapterYard())
	limits, _ := days.ReadLimits(chapterLimits)
	f := planned(t)
	a := api.Account{Cartoon: c, Sheet: s, Limits: limits, Yard: y, Division: api.Division{Patches: [][]int{{0}, {1}}}, Work: work(0, []int{1, 0}, 0, 0, 0, 2, 0, 0), Has: 31}
	want(t, "Told", site.Told(f.pages), a)
	f = f.takes(1, api.DosRule, "7 1 fast lime").takes(1, api.DosRule, "3 1 dry azurite")
	a.Book.Rules = []api.Rule{{Id: 7, Known: 1, Kind: api.RuleFast, X: "lime"}, {Id: 3, Known: 1, Kind: api.RuleDry, X: "azurite"}}
	want(t, "Told with rules", site.Told(f.pages), a)
	f = f.takes(2, api.DosStroke, "stroke 1 2 1 lime").takes(2, api.DosStroke, "stroke 0 2 0 azurite")
	a.Strokes = []api.Stroke{{Task: 1, Day: 2, Wet: true, Colour: "lime"}, {Day: 2, Colour: "azurite"}}
	want(t, "Told with strokes", site.Told(f.pages), a)
	f = f.takes(2, api.DosObservation, "9 2 4 over 2 1").takes(3, api.DosObservation, "4 3 4 void 9")
	a.Observations = []api.Observation{{Id: 9, Known: 2, Reader: 4, Kind: api.ObOver, A: 2, B: 1}, {Id: 4, Known: 3, Reader: 4, Kind: api.ObVoid, Of: 9}}
	want(t, "Told with observations", site.Told(f.pages), a)
	f = f.takes(3, api.DosAct, "7 1 2 crack 1").takes(3, api.DosAct, "0 1 3 loss 2 3").takes(3, api.DosNote, "any\x00 text\xff")
	a.Acts = []api.Act{{Office: 7, Number: 1, Day: 2, Kind: api.ActCrack, Faces: []int{1}}, {Number: 1, Day: 3, Kind: api.ActLoss, Faces: []int{2, 3}}}
	want(t, "Told with acts", site.Told(f.pages), a)
	for n := range f.pages {
		want(t, "Check of a beginning", site.Check(f.pages[:n]), api.Finding{Ok: true})
	}
}

// K5: the bits of Has, page by page.
func TestHas(t *testing.T) {
	f := folder{t: t}
	for _, x := range []struct {
		kind uint8
		body string
		has  uint8
	}{
		{api.DosNote, "", 0}, {api.DosYard, chapterYard(), 4}, {api.DosLimits, chapterLimits, 6}, {api.DosLimits, "limits 60 0 9 1 10", 6}, {api.DosRule, "1 0 fast lime", 6}, {api.DosCartoon, chapterCartoon, 7},
		{api.DosLimits, chapterLimits, 7}, {api.DosDivision, twoDays, 15}, {api.DosYard, wideYard(0), 15}, {api.DosYard, chapterYard(), 15}, {api.DosPlan, chapterWork, 31}, {api.DosYard, wideYard(3), 31},
	} {
		f = f.takes(0, x.kind, x.body)
		want(t, "Has", site.Told(f.pages).Has, x.has)
	}
	want(t, "the limits", site.Told(f.pages).Limits, api.Limits{Minutes: 100, Stages: []api.Stage{{To: 10}}})
	want(t, "Dry", site.Told(f.pages).Yard.Dry, 3)
}

// K5, FindLink: pages that are not linked.
func TestFindLink(t *testing.T) {
	f := planned(t)
	spoilt := func(at, found int, spoil func(p *api.Page)) {
		t.Helper()
		out := slices.Clone(f.pages)
		spoil(&out[at])
		want(t, "Check", site.Check(out), api.Finding{At: found, What: api.FindLink})
		want(t, "Told", site.Told(out), site.Told(out[:found]))
	}
	for at := range f.pages {
		spoilt(at, at, func(p *api.Page) { p.Seq++ })
		spoilt(at, at, func(p *api.Page) { p.Kind = 0 })
		spoilt(at, at, func(p *api.Page) { p.Kind = 11 })
		spoilt(at, at, func(p *api.Page) { p.Day = -1 })
		spoilt(at, at, func(p *api.Page) { p.Prev[9]++ })
		spoilt(at, at, func(p *api.Page) { p.Body, p.Prev = "no form", api.Hash{1} })
		spoilt(at, at, func(p *api.Page) { p.Body = strings.Repeat("x", 20001) })
	}
	spoilt(0, 1, func(p *api.Page) { p.Kind, p.Body = api.DosNote, "" })
	want(t, "Check of 1000 pages", site.Check(full(t)), api.Finding{Ok: true})
	want(t, "Check of 1001 pages", site.Check(append(full(t), api.Page{Seq: 1000, Kind: 10})), api.Finding{At: 1000, What: api.FindLink})
}

// K5, FindForm: a Body that is not as it has to be, also where something else would be wrong.
func TestFindForm(t *testing.T) {
	for _, f := range []folder{{t: t}, planned(t)} {
		for _, body := range []string{"", "x", "wall", chapterCartoon[:len(chapterCartoon)-1], chapterCartoon + "\n", "# drawn\n" + chapterCartoon, strings.Replace(chapterCartoon, "sky", " sky", 1), strings.Replace(chapterCartoon, "lime", "Lime", 1), strings.Replace(chapterCartoon, "\nseam", " # wall\nseam", 1), "wall 0 0 4 0\n"} {
			f.finds(api.FindForm, 0, api.DosCartoon, body)
		}
		for _, body := range []string{"", "limits", "limits 100", "limits 0 0 10", "limits 100 0 10\n", "limits 100 10 0", "limits  100 0 10", "limits 100 0", "limit 100 0 10", "limits 10001 0 10"} {
			f.finds(api.FindForm, 0, api.DosLimits, body)
		}
		for _, body := range []string{"", "yard 1\n", chapterYard()[1:], chapterYard() + "\n", strings.Replace(chapterYard(), "yard 1", "yard 31", 1), strings.Replace(chapterYard(), "ann", "Ann", 1)} {
			f.finds(api.FindForm, 0, api.DosYard, body)
		}
		for _, body := range []string{"", "fast lime", "1 0 fast", "1 0 fast lime\n", "0 0 fast lime", "1 0 fast Lime", "1 0 fast lime white", "1 0 void 1", "01 0 fast lime"} {
			f.finds(api.FindForm, 0, api.DosRule, body)
		}
		for _, body := range []string{"day", "day 0", "day 0 0\n", "day 1\nday 0\n", "day 1 0\n", "days 0\n", "day 0\n\n", "\n", "day -1\n"} {
			f.finds(api.FindForm, 0, api.DosDivision, body)
		}
		for _, body := range []string{"", "work 0\n", chapterWork + "\n", chapterWork[1:], "work 3\norder 1 0\nturn 0 0 0\nturn 2 0 0\n", "work 0\norder 1 1\nturn 0 0 0\nturn 2 0 0\n"} {
			f.finds(api.FindForm, 0, api.DosPlan, body)
		}
		for _, body := range []string{"", "stroke 0 0 1", "stroke 0 0 1 lime\n", "stroke 12 0 1 lime", "stroke 0 0 2 lime", "stroke 0 0 1 Lime"} {
			f.finds(api.FindForm, 0, api.DosStroke, body)
		}
		for _, body := range []string{"", "1 0 1 over 1 1", "1 0 1 over 1 2\n", "0 0 1 over 1 2", "1 0 1 over 1 25", "1 0 1 under 1 2", "1 0 over 1 2"} {
			f.finds(api.FindForm, 0, api.DosObservation, body)
		}
		for _, body := range []string{"", "0 1 0 crack", "8 1 0 crack 1", "0 0 0 crack 1", "0 1 0 crack 1\n", "0 1 0 crack 2 1", "0 1 0 undo 8", "0 1 100001 crack 1"} {
			f.finds(api.FindForm, 0, api.DosAct, body)
		}
		f.takes(0, api.DosNote, "").takes(0, api.DosNote, strings.Repeat("\xff", 20000))
	}
}

// K5, FindState: what has to be there is not, or what must not be there is, also where something else would be wrong.
func TestFindState(t *testing.T) {
	none, d, p := folder{t: t}, divided(t), planned(t)
	drawn(t).finds(api.FindState, 0, api.DosCartoon, chapterCartoon)
	drawn(t).finds(api.FindState, 0, api.DosCartoon, "wall 0 0 4 0 4 4 0 4\n")
	d.finds(api.FindState, 0, api.DosLimits, "limits 1 0 0")
	none.finds(api.FindState, 0, api.DosDivision, twoDays)
	drawn(t).finds(api.FindState, 0, api.DosDivision, twoDays)
	none.takes(0, api.DosLimits, chapterLimits).finds(api.FindState, 0, api.DosDivision, twoDays)
	d.finds(api.FindState, 0, api.DosDivision, twoDays)
	d.finds(api.FindState, 0, api.DosDivision, "day 7\n")
	none.finds(api.FindState, 0, api.DosPlan, chapterWork)
	d.finds(api.FindState, 0, api.DosPlan, chapterWork)
	none.takes(0, api.DosYard, chapterYard()).finds(api.FindState, 0, api.DosPlan, chapterWork)
	drawn(t).takes(0, api.DosYard, chapterYard()).finds(api.FindState, 0, api.DosPlan, "work 0\norder\n")
	none.finds(api.FindState, 0, api.DosStroke, "stroke 0 0 1 lime")
	d.takes(0, api.DosYard, chapterYard()).finds(api.FindState, 0, api.DosStroke, "stroke 9 9 1 x")
	none.finds(api.FindState, 0, api.DosObservation, "1 0 1 over 1 2")
	drawn(t).takes(0, api.DosLimits, chapterLimits).finds(api.FindState, 0, api.DosObservation, "1 9 1 over 1 9")
	// Nothing has to be there for these.
	for _, f := range []folder{none, p} {
		f.takes(0, api.DosYard, chapterYard()).takes(0, api.DosRule, "1 0 fast lime").takes(0, api.DosAct, "3 1 0 crack 1").takes(0, api.DosNote, "")
	}
}

// K5, FindCartoon: a cartoon without a sheet, or with one of more than 12 cells.
func TestFindCartoon(t *testing.T) {
	f := folder{t: t}
	f.finds(api.FindCartoon, 0, api.DosCartoon, "wall 0 0 4 0 4 4 0 4\n")
	f.finds(api.FindCartoon, 0, api.DosCartoon, chapterCartoon+"ground more 1 5 9\n")
	f.finds(api.FindCartoon, 0, api.DosCartoon, "wall 0 0 4 0 4 4 0 4\nseam a 1 1 1 2 1\nground x 1 1 3\n")
	f.finds(api.FindCartoon, 0, api.DosCartoon, grid(7, plain(10)))
	f.takes(0, api.DosCartoon, grid(6, plain(10)))
	// Cells that belong together are one.
	f.takes(0, api.DosCartoon, strings.Replace(grid(7, plain(10)), "seam up40 1", "never up40", 1))
}

// K5, FindRule.
func TestFindRule(t *testing.T) {
	f := folder{t: t}.takes(5, api.DosRule, "3 5 fast lime").takes(5, api.DosRule, "9 5 group lime white")
	f.finds(api.FindRule, 6, api.DosRule, "4 5 fast ochre")
	f.finds(api.FindRule, 5, api.DosRule, "4 6 fast ochre")
	f.finds(api.FindRule, 5, api.DosRule, "4 4 fast ochre")
	f.finds(api.FindRule, 5, api.DosRule, "3 5 fast ochre")
	f.finds(api.FindRule, 5, api.DosRule, "4 5 void 1")
	f.finds(api.FindRule, 5, api.DosRule, "4 5 group white lime")
	f.takes(6, api.DosRule, "4 6 void 3").takes(6, api.DosRule, "1 6 dry lime")
	full := folder{t: t}
	for i := range 200 {
		full = full.with(0, api.DosRule, strconv.Itoa(i+1)+" 0 fast lime")
	}
	want(t, "Check of 200 rules", site.Check(full.pages), api.Finding{Ok: true})
	full.finds(api.FindRule, 0, api.DosRule, "201 0 fast lime")
}

// K5, FindDivision and FindLeast.
func TestFindDivision(t *testing.T) {
	f := drawn(t).takes(0, api.DosLimits, chapterLimits)
	for _, body := range []string{"day 0 1\n", "day 0\n", "day 1\n", "", "day 0\nday 1 2\n", "day 2\n"} {
		f.finds(api.FindDivision, 0, api.DosDivision, body)
	}
	drawn(t).takes(0, api.DosLimits, "limits 59 0 10").finds(api.FindDivision, 0, api.DosDivision, twoDays)
	drawn(t).takes(0, api.DosLimits, "limits 100 0 9").finds(api.FindDivision, 0, api.DosDivision, twoDays)
	f = drawn(t).takes(0, api.DosLimits, "limits 120 0 10")
	f.finds(api.FindLeast, 0, api.DosDivision, twoDays)
	f.takes(0, api.DosDivision, "day 0 1\n")
	// As few days with more seam: the seam between the columns is cheaper than that between the rows.
	f = folder{t: t}.takes(0, api.DosCartoon, grid(2, plain(10))).takes(0, api.DosLimits, "limits 20 0 20")
	f.finds(api.FindLeast, 0, api.DosDivision, "day 0 2\nday 1 3\n")
	f.takes(0, api.DosDivision, "day 0 1\nday 2 3\n")
}

// K5, FindOrder, FindPlan and FindEnd of the first work.
func TestFindFirstWork(t *testing.T) {
	f := divided(t).takes(0, api.DosYard, chapterYard())
	for _, body := range []string{"work 0\norder 0 1\nturn 0 0 0\nturn 2 0 0\n", "work 0\norder\n", "work 0\norder 0\nturn 0 0 0\n", "work 3\norder 2 1 0\n" + turns("0 0 0", 3)} {
		f.finds(api.FindOrder, 0, api.DosPlan, body)
	}
	for _, body := range []string{
		"work 1\norder 1 0\nturn 0 0 0\nturn 2 0 0\n", "work 0\norder 1 0\nturn 0 0 0\nturn 1 0 0\n", "work 0\norder 1 0\nturn 0 1 0\nturn 2 0 0\n", "work 0\norder 1 0\nturn 0 0 1\nturn 2 0 0\n", "work 0\norder 1 0\nturn 2 0 0\nturn 0 0 0\n", "work 0\norder 1 0\nturn 0 0 0\nturn 100 0 0\n",
	} {
		f.finds(api.FindPlan, 0, api.DosPlan, body)
	}
	f.finds(api.FindPlan, 1, api.DosPlan, chapterWork)
	f.takes(1, api.DosPlan, "work 0\norder 1 0\nturn 1 0 0\nturn 3 0 0\n")
	f.finds(api.FindEnd, 0, api.DosPlan, "work 0\norder 1 0\nturn 0 0 0\nturn 3 0 0\n")
	f.finds(api.FindEnd, 0, api.DosPlan, "work 0\norder 1 0\nturn 1 0 0\nturn 3 0 0\n")
	// A plan that is as early, but not the usual one.
	two := divided(t).takes(0, api.DosYard, yard(1, 500, "closed", "pit 0 0 9", "pit 0 0 9", "master ann 0 100 5", "master bob 0 100 5"))
	two.finds(api.FindEnd, 0, api.DosPlan, "work 0\norder 1 0\nturn 0 0 1\nturn 2 0 0\n")
	two.finds(api.FindEnd, 0, api.DosPlan, "work 0\norder 1 0\nturn 0 1 0\nturn 2 0 0\n")
	two.takes(0, api.DosPlan, chapterWork)
	// There is no order.
	bent := folder{t: t}.takes(0, api.DosCartoon, bentCartoon).takes(0, api.DosLimits, chapterLimits).takes(0, api.DosDivision, twoDays).takes(0, api.DosYard, chapterYard())
	bent.finds(api.FindOrder, 0, api.DosPlan, chapterWork)
	// There are no tasks, because one has too many colours.
	many := folder{t: t}.takes(0, api.DosCartoon, colourful()).takes(0, api.DosLimits, "limits 100 0 20").takes(0, api.DosDivision, "day 0 1 2 3 4 5\n").takes(0, api.DosYard, wideYard(1))
	many.finds(api.FindPlan, 0, api.DosPlan, "work 0\norder 0\nturn 0 0 0\n")
	// There is no plan.
	dark := divided(t).takes(0, api.DosYard, yard(1, 59, "closed", "pit 0 0 9", "master ann 0 100 5"))
	dark.finds(api.FindPlan, 0, api.DosPlan, chapterWork)
}

// colourful returns a cartoon with six cells that have eight colours each.
func colourful() string {
	return grid(3, func(i int) (int, string) {
		colours := ""
		for n := range 8 {
			colours += " c" + strconv.Itoa(8*i+n)
		}
		return 10, colours
	})
}

// K5: the order of the first work where there are more than 8 patches.
func TestFindOrderOfMany(t *testing.T) {
	f := folder{t: t}.takes(0, api.DosCartoon, grid(5, plain(10))).takes(0, api.DosLimits, "limits 10 0 20")
	f = f.takes(0, api.DosDivision, "day 0\nday 1\nday 2\nday 3\nday 4\nday 5\nday 6\nday 7\nday 8\nday 9\n").takes(0, api.DosYard, wideYard(2))
	first := "work 0\norder 1 0 3 2 5 4 7 6 9 8\nturn 0 0 0\nturn 3 0 0\nturn 4 0 0\nturn 7 0 0\nturn 8 0 0\nturn 11 0 0\nturn 12 0 0\nturn 15 0 0\nturn 16 0 0\nturn 19 0 0\n"
	f.takes(0, api.DosPlan, first)
	f.finds(api.FindOrder, 0, api.DosPlan, strings.Replace(first, "1 0 3 2", "1 3 0 2", 1))
}

// K5, FindOrder, FindPlan and FindEnd of later works.
func TestFindLaterWork(t *testing.T) {
	f := planned(t)
	again := "work 1\norder 1 0\nturn 0 0 0\nturn 2 0 0\n"
	later := "work 1\norder 1 0\nturn 0 0 0\nturn 3 0 0\n"
	f.takes(0, api.DosPlan, again).takes(1, api.DosPlan, again)
	f.takes(2, api.DosPlan, "work 2\norder 1 0\nturn 0 0 0\nturn 2 0 0\n")
	f.finds(api.FindOrder, 0, api.DosPlan, "work 1\norder 0 1\nturn 0 0 0\nturn 2 0 0\n")
	f.finds(api.FindOrder, 0, api.DosPlan, "work 0\norder\n")
	f.finds(api.FindPlan, 0, api.DosPlan, chapterWork)
	f.finds(api.FindPlan, 2, api.DosPlan, again)
	f.finds(api.FindPlan, 0, api.DosPlan, "work 2\norder 1 0\nturn 0 0 0\nturn 2 0 0\n")
	for _, body := range []string{later, "work 1\norder 1 0\nturn 1 0 0\nturn 2 0 0\n", "work 1\norder 1 0\nturn 0 0 0\nturn 2 1 0\n", "work 1\norder 1 0\nturn 0 0 0\nturn 2 0 1\n", "work 1\norder 1 0\nturn 0 0 0\nturn 1 0 0\n"} {
		f.finds(api.FindEnd, 0, api.DosPlan, body)
	}
	// The day behind the last one is none.
	f.finds(api.FindEnd, 100000, api.DosPlan, "work 2\norder 1 0\nturn 0 0 0\nturn 2 0 0\n")
	closed := f.takes(0, api.DosYard, strings.Replace(chapterYard(), "closed", "closed 2", 1))
	closed.finds(api.FindEnd, 0, api.DosPlan, again)
	closed.takes(0, api.DosPlan, later).takes(2, api.DosPlan, later)
	// A yard without a plan from now on.
	f.takes(0, api.DosYard, yard(1, 0, "closed")).finds(api.FindEnd, 0, api.DosPlan, again)
}

// painted returns the folder of a work with rules for all colours.
func painted(t *testing.T) folder {
	t.Helper()
	return planned(t).takes(0, api.DosRule, "1 0 fast lime").takes(0, api.DosRule, "2 0 dry azurite")
}

// K5, FindStroke: all that keeps a stroke from being laid.
func TestFindStroke(t *testing.T) {
	f := painted(t)
	// The Day is not that of the page.
	f.finds(api.FindStroke, 1, api.DosStroke, "stroke 0 0 1 lime")
	f.finds(api.FindStroke, 0, api.DosStroke, "stroke 1 2 1 lime")
	// No such task, and none of its colours.
	f.finds(api.FindStroke, 0, api.DosStroke, "stroke 2 0 1 lime")
	f.finds(api.FindStroke, 0, api.DosStroke, "stroke 0 0 1 ochre")
	f.finds(api.FindStroke, 2, api.DosStroke, "stroke 1 2 1 azurite")
	// Wet on another day, or by the rules.
	f.finds(api.FindStroke, 1, api.DosStroke, "stroke 0 1 1 lime")
	f.finds(api.FindStroke, 1, api.DosStroke, "stroke 1 1 1 lime")
	f.finds(api.FindStroke, 0, api.DosStroke, "stroke 0 0 1 azurite")
	planned(t).finds(api.FindStroke, 0, api.DosStroke, "stroke 0 0 1 lime")
	f.takes(0, api.DosRule, "3 0 dry lime").finds(api.FindStroke, 0, api.DosStroke, "stroke 0 0 1 lime")
	f.takes(0, api.DosRule, "3 0 void 1").finds(api.FindStroke, 0, api.DosStroke, "stroke 0 0 1 lime")
	// Dry too early, or by the rules.
	f.finds(api.FindStroke, 0, api.DosStroke, "stroke 0 0 0 azurite")
	f.finds(api.FindStroke, 1, api.DosStroke, "stroke 0 1 0 azurite")
	f.takes(1, api.DosRule, "3 1 fast azurite").finds(api.FindStroke, 2, api.DosStroke, "stroke 0 2 0 azurite")
	f.takes(1, api.DosRule, "3 1 void 2").finds(api.FindStroke, 2, api.DosStroke, "stroke 0 2 0 azurite")
	f.takes(1, api.DosYard, wideYard(2)).finds(api.FindStroke, 2, api.DosStroke, "stroke 0 2 0 azurite")
	f.takes(1, api.DosYard, wideYard(2)).takes(3, api.DosStroke, "stroke 0 3 0 azurite")
	// Twice, and over what it may not lie over.
	laid := f.takes(0, api.DosStroke, "stroke 0 0 1 lime").takes(1, api.DosRule, "3 1 over azurite lime").takes(1, api.DosRule, "4 1 beside azurite lime")
	laid.finds(api.FindStroke, 1, api.DosStroke, "stroke 0 1 1 lime")
	laid.finds(api.FindStroke, 2, api.DosStroke, "stroke 0 2 0 lime")
	laid.finds(api.FindStroke, 2, api.DosStroke, "stroke 0 2 0 azurite")
	laid.takes(2, api.DosRule, "5 2 void 3").takes(2, api.DosStroke, "stroke 0 2 0 azurite")
	// A rule about one task is none about others, and none the other way round.
	laid.takes(2, api.DosStroke, "stroke 1 2 1 lime")
	f.takes(0, api.DosRule, "3 0 over lime azurite").takes(0, api.DosStroke, "stroke 0 0 1 lime").takes(2, api.DosStroke, "stroke 0 2 0 azurite").takes(2, api.DosStroke, "stroke 1 2 1 lime")
}

// K5: strokes that may be laid.
func TestStrokesTaken(t *testing.T) {
	f := painted(t)
	f.takes(0, api.DosStroke, "stroke 0 0 1 lime").takes(2, api.DosStroke, "stroke 1 2 1 lime")
	// What is fresh may also be laid on dry plaster, and what is dry at any time from then on, also on closed days.
	f.takes(2, api.DosStroke, "stroke 0 2 0 lime").takes(100000, api.DosStroke, "stroke 0 100000 0 azurite")
	f.takes(0, api.DosYard, strings.Replace(chapterYard(), "closed", "closed 4", 1)).takes(4, api.DosStroke, "stroke 0 4 0 azurite")
	// The turn is that of the last work.
	moved := f.takes(0, api.DosYard, strings.Replace(chapterYard(), "closed", "closed 2", 1)).takes(0, api.DosPlan, "work 1\norder 1 0\nturn 0 0 0\nturn 3 0 0\n")
	moved.finds(api.FindStroke, 2, api.DosStroke, "stroke 1 2 1 lime")
	moved.takes(3, api.DosStroke, "stroke 1 3 1 lime")
	// Rules that come later change nothing of what was laid.
	f.takes(0, api.DosStroke, "stroke 0 0 1 lime").takes(0, api.DosRule, "3 0 dry lime")
}

// K5, FindObservation.
func TestFindObservation(t *testing.T) {
	f := divided(t).takes(3, api.DosObservation, "5 3 1 over 1 2")
	for _, body := range []string{"6 2 1 over 1 2", "6 4 1 over 1 2", "5 3 1 same 1 2", "6 3 1 over 1 3", "6 3 1 void 4", "6 3 2 void 5"} {
		f.finds(api.FindObservation, 3, api.DosObservation, body)
	}
	f.finds(api.FindObservation, 4, api.DosObservation, "6 3 1 over 1 2")
	// What contradicts the others is not wrong.
	f.takes(3, api.DosObservation, "2 3 1 over 2 1").takes(9, api.DosObservation, "1 9 1 void 2")
	full := divided(t)
	for i := range 300 {
		full = full.with(0, api.DosObservation, strconv.Itoa(i+1)+" 0 1 apart 1 2")
	}
	want(t, "Check of 300 observations", site.Check(full.pages), api.Finding{Ok: true})
	full.finds(api.FindObservation, 0, api.DosObservation, "301 0 1 apart 1 2")
}

// K5, FindAct.
func TestFindAct(t *testing.T) {
	f := folder{t: t}.takes(5, api.DosAct, "2 1 4 crack 1").takes(5, api.DosAct, "0 1 5 loss 1").takes(6, api.DosAct, "2 2 5 crack 1")
	for _, body := range []string{"2 3 7 crack 1", "2 2 6 crack 1", "2 4 6 crack 1", "2 1 6 crack 1", "1 2 6 crack 1", "0 1 6 crack 1", "0 3 6 crack 1", "2 3 4 crack 1", "0 2 4 crack 1"} {
		f.finds(api.FindAct, 6, api.DosAct, body)
	}
	// The acts of another office may be earlier, and an act may be void.
	f.takes(6, api.DosAct, "1 1 0 undo 16").takes(6, api.DosAct, "2 3 5 mend 9").takes(6, api.DosAct, "0 2 6 remove 4007 1")
}
