package site_test

import (
	"slices"
	"strconv"
	"strings"
	"testing"

	"giornata/api"
	"giornata/cartoon"
	"giornata/order"
	"giornata/site"
)

// writes wants a command to return OK and to write one page of today.
func writes(t *testing.T, s *site.Site, call func() results, kind uint8, body string, wanted ...any) {
	t.Helper()
	before := s.Pages()
	wants(t, "a command", call(), append(wanted, api.OK)...)
	p, e := site.Next(before, s.Today(), kind, body)
	want(t, "the error of Next", e, api.OK)
	want(t, "the pages", s.Pages(), append(before, p))
	audited(t, s)
}

// refuses wants a command to return an error, and to have no effect.
func refuses(t *testing.T, s *site.Site, call func() results, wanted ...any) {
	t.Helper()
	today, before, account := s.Today(), s.Pages(), s.Account()
	wants(t, "a command with an error", call(), wanted...)
	want(t, "today", s.Today(), today)
	want(t, "the pages", s.Pages(), before)
	want(t, "the account", s.Account(), account)
}

// filled returns a site with as many pages as there can be, and room for nothing but more of them.
func filled(t *testing.T, s *site.Site) *site.Site {
	t.Helper()
	for len(s.Pages()) < 1000 {
		do(t, s.Hire(chapterYard()))
	}
	return s
}

// K6: new sites and their days.
func TestNew(t *testing.T) {
	for _, x := range []api.Setup{{}, {Offices: 0, Sectors: 1000}, {Offices: -1, Sectors: 1000}, {Offices: 9, Sectors: 1000}, {Offices: 1, Sectors: 999}, {Offices: 1, Sectors: 65537}, {Offices: 1, Sectors: -1}, {Offices: huge, Sectors: huge}, {Offices: tiny, Sectors: tiny}} {
		s, e := site.New(x)
		want(t, "New", s == nil && e == api.ErrArg, true)
	}
	for _, x := range []api.Setup{{Offices: 1, Sectors: 1000}, {Offices: 8, Sectors: 65536}} {
		s, e := site.New(x)
		if e != api.OK {
			t.Fatalf("New: error %d", e)
		}
		want(t, "Today", s.Today(), 0)
		want(t, "Pages", s.Pages(), []api.Page(nil))
		want(t, "Account", s.Account(), api.Account{})
		want(t, "Audit", s.Audit(), api.Finding{Ok: true})
		for office := -1; office <= x.Offices; office++ {
			want(t, "Register", s.Register(office), []api.Act(nil))
			states := 0
			if office >= 0 && office < x.Offices {
				states = 100
			}
			want(t, "Wall", s.Wall(office), make([]api.State, states))
		}
	}
}

// K6: days.
func TestAdvance(t *testing.T) {
	s := newSite(t, 1)
	for _, x := range []struct {
		day int
		e   api.Errno
	}{{0, api.OK}, {5, api.OK}, {5, api.OK}, {4, api.ErrTime}, {0, api.ErrTime}, {-1, api.ErrArg}, {100001, api.ErrArg}, {tiny, api.ErrArg}, {huge, api.ErrArg}, {100000, api.OK}, {99999, api.ErrTime}} {
		today := s.Today()
		want(t, "Advance", s.Advance(x.day), x.e)
		if x.e == api.OK {
			today = x.day
		}
		want(t, "Today", s.Today(), today)
	}
	want(t, "Pages", s.Pages(), []api.Page(nil))
}

// K7: cartoons.
func TestDraw(t *testing.T) {
	s := newSite(t, 1)
	draws := func(source string) func() results { return func() results { return of(s.Draw(source)) } }
	for source, e := range map[string]api.Errno{
		"": api.ErrForm, "x": api.ErrForm, "wall 0 0 4 0": api.ErrLimit, strings.Repeat("#", 20001): api.ErrLimit, "wall 0 0 4 0 4 10001\n": api.ErrArg, chapterCartoon + "ground sea 1 1 1\n": api.ErrTwice,
		"wall 0 0 4 0 4 4 0 4\n": api.ErrGround, "wall 0 0 4 0 4 4 0 4\nseam a 1 1 1 2 1\nground x 1 1 3\n": api.ErrLoose, grid(7, plain(1)): api.ErrLimit, grid(13, plain(1)): api.ErrLimit,
	} {
		refuses(t, s, draws(source), e)
	}
	do(t, s.Advance(7))
	writes(t, s, draws("# The wall\n"+strings.ReplaceAll(strings.TrimSuffix(chapterCartoon, "\n"), " ", "  ")), api.DosCartoon, chapterCartoon)
	refuses(t, s, draws(chapterCartoon), api.ErrState)
	refuses(t, s, draws("wall 0 0 4 0 4 4 0 4\n"), api.ErrState)
	refuses(t, s, draws("x"), api.ErrForm)
	s = newSite(t, 1)
	writes(t, s, draws(grid(6, plain(1))), api.DosCartoon, grid(6, plain(1)))
}

// long returns the source of a wall with 78 faces in two cells, as it is printed but without the last line feed, that has some length.
func long(t *testing.T, length int) string {
	t.Helper()
	colours := ""
	for i := range 8 {
		colours += " " + longest[:23] + strconv.Itoa(i)
	}
	source := grid(39, func(int) (int, string) { return 10, colours })
	for i := 1; i < 39; i++ {
		x := "up" + strconv.Itoa(10*i)
		source = strings.Replace(source, "seam "+x+" "+strconv.Itoa(1+(i-1)%3), "never "+x, 1)
	}
	source = strings.TrimSuffix(source, "\n")
	for i := 0; len(source) < length; i++ {
		name := "ground g" + strconv.Itoa(i%78)
		source = strings.Replace(source, name+" ", name+strings.Repeat("x", min(20, length-len(source)))+" ", 1)
	}
	want(t, "the length of a source", len(source), length)
	return source
}

// K7: the page of a cartoon has one more line feed than its source may have.
func TestDrawLong(t *testing.T) {
	s := newSite(t, 1)
	refuses(t, s, func() results { return of(s.Draw(long(t, 20000))) }, api.ErrLimit)
	source := long(t, 19999)
	writes(t, s, func() results { return of(s.Draw(source)) }, api.DosCartoon, source+"\n")
	// Comments are not printed.
	s = newSite(t, 1)
	do(t, s.Draw(chapterCartoon+strings.Repeat("#", 20000-len(chapterCartoon))))
	want(t, "the page", lastBody(s), chapterCartoon)
}

// K7: limits.
func TestLimit(t *testing.T) {
	s := newSite(t, 1)
	limits := func(line string) func() results { return func() results { return of(s.Limit(line)) } }
	for _, line := range []string{"", "limits", "100 0 10", "limits 0 0 10", "limits 100", "limits 100 0 10\n", "limits 100 0 10 ", "limits 100 0 10001"} {
		refuses(t, s, limits(line), api.ErrForm)
	}
	writes(t, s, limits(chapterLimits), api.DosLimits, chapterLimits)
	writes(t, s, limits("limits 120 0 10"), api.DosLimits, "limits 120 0 10")
	writes(t, s, limits(chapterLimits), api.DosLimits, chapterLimits)
	do(t, s.Draw(chapterCartoon), divide(s))
	refuses(t, s, limits(chapterLimits), api.ErrState)
	refuses(t, s, limits("limits"), api.ErrForm)
}

// K7: yards, at any time.
func TestHire(t *testing.T) {
	s := newSite(t, 1)
	hires := func(text string) func() results { return func() results { return of(s.Hire(text)) } }
	for _, text := range []string{"", "yard 1\n", chapterYard() + "\n", strings.TrimSuffix(chapterYard(), "\n"), strings.Replace(chapterYard(), "ann", "Ann", 1)} {
		refuses(t, s, hires(text), api.ErrForm)
	}
	writes(t, s, hires(chapterYard()), api.DosYard, chapterYard())
	s = plannedSite(t)
	writes(t, s, hires(wideYard(30)), api.DosYard, wideYard(30))
}

// K8: rules, which get the next Ids.
func TestRule(t *testing.T) {
	s := newSite(t, 1)
	rules := func(line string) func() results { return func() results { return of(s.Rule(line)) } }
	for _, line := range []string{"", " ", "fast", "fast Lime", "fast lime ", " fast lime", "fast lime\n", "1 0 fast lime", "void 1", "void x", "slow lime", "group lime lime"} {
		refuses(t, s, rules(line), api.ErrForm)
	}
	refuses(t, s, rules("void 2"), api.ErrNone)
	writes(t, s, rules("fast lime"), api.DosRule, "1 0 fast lime")
	writes(t, s, rules("group lime white"), api.DosRule, "2 0 group lime white")
	refuses(t, s, rules("group white lime"), api.ErrLoop)
	refuses(t, s, rules("void 9"), api.ErrNone)
	do(t, s.Advance(30))
	writes(t, s, rules("void 1"), api.DosRule, "3 30 void 1")
	refuses(t, s, rules("void 3"), api.ErrNone)
	refuses(t, s, rules("void 4"), api.ErrForm)
	writes(t, s, rules("over a b"), api.DosRule, "4 30 over a b")
	for n := 5; n <= 200; n++ {
		do(t, s.Rule("beside x y"))
	}
	refuses(t, s, rules("fast ochre"), api.ErrLimit)
	refuses(t, s, rules("fast"), api.ErrForm)
}

// K9: the division.
func TestDivide(t *testing.T) {
	s := newSite(t, 1)
	divides := func() results { return of(s.Divide()) }
	none := api.Cost{}
	refuses(t, s, divides, none, api.ErrState)
	do(t, s.Limit(chapterLimits))
	refuses(t, s, divides, none, api.ErrState)
	do(t, s.Draw(chapterCartoon))
	do(t, s.Limit("limits 59 0 10"))
	refuses(t, s, divides, none, api.ErrNever)
	do(t, s.Limit(chapterLimits))
	writes(t, s, divides, api.DosDivision, twoDays, api.Cost{Days: 2, Seam: 20})
	refuses(t, s, divides, none, api.ErrState)
	s = newSite(t, 1)
	do(t, s.Draw(chapterCartoon))
	refuses(t, s, divides, none, api.ErrState)
	do(t, s.Limit("limits 120 0 10"))
	writes(t, s, divides, api.DosDivision, "day 0 1\n", api.Cost{Days: 1})
}

// K10: the first plan.
func TestPlan(t *testing.T) {
	s := newSite(t, 1)
	plans := func() results { return of(s.Plan()) }
	refuses(t, s, plans, 0, api.ErrState)
	do(t, s.Hire(chapterYard()), s.Draw(chapterCartoon), s.Limit(chapterLimits))
	refuses(t, s, plans, 0, api.ErrState)
	do(t, divide(s), s.Advance(9))
	do(t, s.Hire(yard(1, 59, "closed")))
	refuses(t, s, plans, 0, api.ErrSpan)
	do(t, s.Hire(chapterYard()))
	writes(t, s, plans, api.DosPlan, "work 0\norder 1 0\nturn 9 0 0\nturn 11 0 0\n", 11)
	refuses(t, s, plans, 0, api.ErrState)
	s = dividedSite(t)
	refuses(t, s, plans, 0, api.ErrState)
	s = newSite(t, 1)
	do(t, s.Draw(bentCartoon), s.Limit(chapterLimits), divide(s), s.Hire(chapterYard()))
	refuses(t, s, plans, 0, api.ErrCircle)
	s = newSite(t, 1)
	do(t, s.Draw(colourful()), s.Limit("limits 100 0 20"), divide(s), s.Hire(wideYard(0)))
	refuses(t, s, plans, 0, api.ErrLimit)
	// As many patches as there can be.
	s = newSite(t, 1)
	do(t, s.Draw(grid(6, plain(10))), s.Limit("limits 10 0 20"), divide(s), s.Hire(wideYard(1)), plan(s))
	want(t, "the order", s.Account().Work.Order, []int{1, 0, 3, 2, 5, 4, 7, 6, 9, 8, 11, 10})
	audited(t, s)
}

// K10: the order of up to eight patches is one that is dry first, that of more is the first one.
func TestPlanWaits(t *testing.T) {
	for columns, wanted := range map[int][]int{
		3: {1, 5, 0, 3, 4, 2}, 4: {1, 5, 0, 3, 4, 7, 2, 6}, 5: {1, 0, 3, 2, 5, 4, 7, 6, 9, 8},
	} {
		s := newSite(t, 1)
		do(t, s.Draw(grid(columns, plain(10))), s.Limit("limits 10 0 20"), divide(s), s.Hire(wideYard(2)), plan(s))
		want(t, "the order", s.Account().Work.Order, wanted)
		audited(t, s)
		problem, e := order.From(s.Account().Sheet, s.Account().Division)
		want(t, "the error of From", e, api.OK)
		first, e := order.First(problem)
		want(t, "the error of First", e, api.OK)
		want(t, "that the order is the first one", slices.Equal(wanted, first), columns > 4)
	}
}

// K10: delays.
func TestDelay(t *testing.T) {
	s := newSite(t, 1)
	delays := func(day int) func() results { return func() results { return of(s.Delay(day)) } }
	refuses(t, s, delays(2), api.ErrState)
	do(t, s.Hire(chapterYard()))
	for _, day := range []int{-1, 100001, tiny, huge} {
		refuses(t, s, delays(day), api.ErrArg)
	}
	writes(t, s, delays(20), api.DosYard, strings.Replace(chapterYard(), "closed", "closed 20", 1))
	writes(t, s, delays(3), api.DosYard, strings.Replace(chapterYard(), "closed", "closed 3 20", 1))
	refuses(t, s, delays(20), api.ErrTwice)
	for n := 2; n < 200; n++ {
		do(t, s.Delay(100+n))
	}
	refuses(t, s, delays(100000), api.ErrLimit)
	refuses(t, s, delays(20), api.ErrTwice)
}

// K10: plans that are made anew.
func TestReplan(t *testing.T) {
	s := dividedSite(t)
	replans := func() results { return of(s.Replan()) }
	refuses(t, s, replans, 0, api.ErrState)
	do(t, s.Hire(chapterYard()))
	refuses(t, s, replans, 0, api.ErrState)
	do(t, plan(s))
	writes(t, s, replans, api.DosPlan, "work 1\norder 1 0\nturn 0 0 0\nturn 2 0 0\n", 2)
	do(t, s.Delay(2), s.Advance(1))
	writes(t, s, replans, api.DosPlan, "work 1\norder 1 0\nturn 0 0 0\nturn 3 0 0\n", 3)
	do(t, s.Hire(yard(1, 0, "closed")))
	refuses(t, s, replans, 0, api.ErrSpan)
	do(t, s.Hire(chapterYard()), s.Advance(50))
	writes(t, s, replans, api.DosPlan, "work 2\norder 1 0\nturn 0 0 0\nturn 3 0 0\n", 3)
	do(t, s.Advance(100000))
	refuses(t, s, replans, 0, api.ErrArg)
	// What was done stays, where it would have to dry for longer.
	s = plannedSite(t)
	do(t, s.Advance(2), s.Hire(wideYard(5)))
	refuses(t, s, replans, 0, api.ErrSpan)
	// A plan that comes late: nothing was done of what was missed.
	s = newSite(t, 1)
	do(t, s.Draw(grid(2, plain(10))), s.Limit("limits 10 0 20"), divide(s), s.Hire(wideYard(0)), s.Advance(3), plan(s))
	do(t, s.Delay(4), s.Delay(5))
	writes(t, s, replans, api.DosPlan, "work 1\norder 1 0 3 2\nturn 3 0 0\nturn 6 0 0\nturn 7 0 0\nturn 8 0 0\n", 8)
}

// K11: strokes, and what keeps them from being laid, in the order of the errors.
func TestLay(t *testing.T) {
	s := dividedSite(t)
	lays := func(task int, wet bool, colour string) func() results {
		return func() results { return of(s.Lay(task, wet, colour)) }
	}
	refuses(t, s, lays(9, true, ""), api.ErrState)
	do(t, s.Hire(chapterYard()), plan(s))
	for _, task := range []int{-1, 2, tiny, huge} {
		refuses(t, s, lays(task, true, "lime"), api.ErrNone)
	}
	for _, colour := range []string{"", "ochre", "Lime", "lime ", "lime\n"} {
		refuses(t, s, lays(0, true, colour), api.ErrNone)
	}
	refuses(t, s, lays(1, true, "azurite"), api.ErrNone)
	refuses(t, s, lays(1, true, "lime"), api.ErrTime)
	refuses(t, s, lays(0, true, "lime"), api.ErrState)
	do(t, s.Rule("fast lime"), s.Rule("dry azurite"))
	writes(t, s, lays(0, true, "lime"), api.DosStroke, "stroke 0 0 1 lime")
	refuses(t, s, lays(0, true, "azurite"), api.ErrState)
	refuses(t, s, lays(0, false, "azurite"), api.ErrTime)
	do(t, s.Advance(1))
	refuses(t, s, lays(0, false, "azurite"), api.ErrTime)
	refuses(t, s, lays(0, true, "azurite"), api.ErrTime)
	refuses(t, s, lays(0, false, "lime"), api.ErrTwice)
	do(t, s.Advance(2), s.Rule("over azurite lime"))
	refuses(t, s, lays(0, false, "azurite"), api.ErrState)
	do(t, s.Rule("void 3"), s.Rule("over lime azurite"))
	writes(t, s, lays(0, false, "azurite"), api.DosStroke, "stroke 0 2 0 azurite")
	refuses(t, s, lays(0, true, "azurite"), api.ErrTwice)
	writes(t, s, lays(1, true, "lime"), api.DosStroke, "stroke 1 2 1 lime")
	do(t, s.Advance(9))
	refuses(t, s, lays(1, false, "lime"), api.ErrTwice)
	want(t, "the strokes", s.Account().Strokes, []api.Stroke{{Colour: "lime", Wet: true}, {Day: 2, Colour: "azurite"}, {Task: 1, Day: 2, Colour: "lime", Wet: true}})
	// What is fresh may also be laid dry, but not what is neither, or both.
	s = plannedSite(t)
	do(t, s.Advance(9))
	refuses(t, s, lays(0, false, "lime"), api.ErrState)
	do(t, s.Rule("fast lime"), s.Rule("dry lime"), s.Rule("dry azurite"), s.Rule("fast azurite"))
	refuses(t, s, lays(0, false, "lime"), api.ErrState)
	do(t, s.Rule("void 2"))
	writes(t, s, lays(0, false, "lime"), api.DosStroke, "stroke 0 9 0 lime")
	refuses(t, s, lays(0, false, "azurite"), api.ErrState)
}

// K12: observations, which get the next Ids.
func TestObserve(t *testing.T) {
	s := newSite(t, 1)
	observes := func(line string) func() results { return func() results { return of(s.Observe(line)) } }
	refuses(t, s, observes("1 over 2 1"), api.ErrState)
	refuses(t, s, observes(""), api.ErrState)
	do(t, s.Draw(chapterCartoon), s.Limit(chapterLimits))
	refuses(t, s, observes("1 over 2 1"), api.ErrState)
	s = dividedSite(t)
	for _, line := range []string{"", "1 over 2", "over 2 1", "1 over 2 1 ", " 1 over 2 1", "1 over 2 1\n", "1 under 2 1", "0 over 2 1", "1 over 1 1", "1 over 1 25", "1 0 1 over 1 2", "01 over 1 2"} {
		refuses(t, s, observes(line), api.ErrForm)
	}
	refuses(t, s, observes("1 over 1 3"), api.ErrArg)
	refuses(t, s, observes("1 void 2"), api.ErrNone)
	writes(t, s, observes("1 over 2 1"), api.DosObservation, "1 0 1 over 2 1")
	do(t, s.Advance(4))
	refuses(t, s, observes("2 void 1"), api.ErrState)
	writes(t, s, observes("7 same 1 2"), api.DosObservation, "2 4 7 same 1 2")
	writes(t, s, observes("1 void 1"), api.DosObservation, "3 4 1 void 1")
	refuses(t, s, observes("1 void 3"), api.ErrArg)
	for n := 4; n <= 300; n++ {
		do(t, s.Observe("1 apart 1 2"))
	}
	refuses(t, s, observes("1 over 1 2"), api.ErrLimit)
}

// K13: acts are entered in the order of the register.
func TestEnter(t *testing.T) {
	s := newSite(t, 3)
	enters := func() results { return of(s.Enter()) }
	refuses(t, s, enters, 0, api.ErrNone)
	do(t, s.Sign(1, "crack 1"), s.Sign(1, "mend 1"))
	refuses(t, s, enters, 0, api.ErrNone)
	do(t, s.Advance(3), s.Sign(0, "loss 9"), s.Sign(0, "loss 9"))
	writes(t, s, enters, api.DosAct, "0 1 3 loss 9", 1)
	do(t, s.Greet(0, 1), s.Carry(0, 1, 0), s.Carry(1, 0, 0))
	writes(t, s, enters, api.DosAct, "1 1 0 crack 1", 2)
	do(t, s.Advance(5))
	writes(t, s, enters, api.DosAct, "1 2 0 mend 1", 1)
	// Nothing is asked of the disk.
	do(t, s.Stop(0, 0))
	want(t, "Sign", s.Sign(0, "loss 1"), api.ErrDown)
	writes(t, s, enters, api.DosAct, "0 2 3 loss 9", 0)
	refuses(t, s, enters, 0, api.ErrNone)
	do(t, s.Crash(0, nil))
	refuses(t, s, enters, 0, api.ErrNone)
	want(t, "the acts", s.Account().Acts, []api.Act{
		{Number: 1, Day: 3, Kind: api.ActLoss, Faces: []int{9}}, {Office: 1, Number: 1, Kind: api.ActCrack, Faces: []int{1}}, {Office: 1, Number: 2, Kind: api.ActMend, Faces: []int{1}}, {Number: 2, Day: 3, Kind: api.ActLoss, Faces: []int{9}},
	})
}

// K7 to K13: what writing a page refuses comes behind all other errors.
func TestFullDossier(t *testing.T) {
	s := filled(t, plannedSite(t))
	do(t, s.Advance(0))
	refuses(t, s, func() results { return of(s.Draw(chapterCartoon)) }, api.ErrState)
	refuses(t, s, func() results { return of(s.Limit(chapterLimits)) }, api.ErrState)
	refuses(t, s, func() results { return of(s.Hire(chapterYard())) }, api.ErrLimit)
	refuses(t, s, func() results { return of(s.Hire("")) }, api.ErrForm)
	refuses(t, s, func() results { return of(s.Rule("fast lime")) }, api.ErrLimit)
	refuses(t, s, func() results { return of(s.Rule("void 7")) }, api.ErrNone)
	refuses(t, s, func() results { return of(s.Divide()) }, api.Cost{}, api.ErrState)
	refuses(t, s, func() results { return of(s.Plan()) }, 0, api.ErrState)
	refuses(t, s, func() results { return of(s.Delay(9)) }, api.ErrLimit)
	refuses(t, s, func() results { return of(s.Delay(-1)) }, api.ErrArg)
	refuses(t, s, func() results { return of(s.Replan()) }, 0, api.ErrLimit)
	refuses(t, s, func() results { return of(s.Lay(0, true, "lime")) }, api.ErrState)
	refuses(t, s, func() results { return of(s.Observe("1 over 1 2")) }, api.ErrLimit)
	refuses(t, s, func() results { return of(s.Enter()) }, 0, api.ErrNone)
	do(t, s.Sign(0, "crack 1"))
	refuses(t, s, func() results { return of(s.Enter()) }, 0, api.ErrLimit)
	audited(t, s)
	s = newSite(t, 1)
	do(t, s.Limit(chapterLimits))
	filled(t, s)
	refuses(t, s, func() results { return of(s.Draw(chapterCartoon)) }, api.ErrLimit)
	refuses(t, s, func() results { return of(s.Limit(chapterLimits)) }, api.ErrLimit)
	s = newSite(t, 1)
	do(t, s.Limit(chapterLimits), s.Draw(chapterCartoon))
	filled(t, s)
	refuses(t, s, func() results { return of(s.Divide()) }, api.Cost{}, api.ErrLimit)
	s = filled(t, dividedSite(t))
	refuses(t, s, func() results { return of(s.Plan()) }, 0, api.ErrLimit)
	s = plannedSite(t)
	do(t, s.Rule("fast lime"))
	filled(t, s)
	refuses(t, s, func() results { return of(s.Lay(0, true, "lime")) }, api.ErrLimit)
}

// K17: what is read of the wall.
func TestRead(t *testing.T) {
	s := newSite(t, 1)
	reads := func(a, b int) func() results { return func() results { return of(s.Read(a, b)) } }
	none := []int(nil)
	refuses(t, s, reads(0, 0), uint8(0), none, api.ErrState)
	do(t, s.Draw(chapterCartoon), s.Limit(chapterLimits))
	refuses(t, s, reads(1, 2), uint8(0), none, api.ErrState)
	s = dividedSite(t)
	for _, x := range [][2]int{{0, 1}, {1, 3}, {1, 1}, {tiny, huge}} {
		refuses(t, s, reads(x[0], x[1]), uint8(0), none, api.ErrArg)
	}
	wants(t, "Read", reads(1, 2)(), api.ReadOpen, none, api.OK)
	do(t, s.Observe("1 apart 1 2"))
	wants(t, "Read", reads(1, 2)(), api.ReadApart, []int{1}, api.OK)
	do(t, s.Advance(5), s.Observe("1 over 2 1"))
	wants(t, "Read", reads(1, 2)(), api.ReadAfter, []int{2}, api.OK)
	wants(t, "Read", reads(2, 1)(), api.ReadBefore, []int{2}, api.OK)
	do(t, s.Observe("1 same 2 1"))
	wants(t, "Read", reads(1, 2)(), api.ReadContrary, none, api.OK)
	do(t, s.Observe("1 void 2"), s.Observe("1 void 1"))
	wants(t, "Read", reads(1, 2)(), api.ReadSame, []int{3}, api.OK)
	// The things are the patches.
	s = newSite(t, 1)
	do(t, s.Draw(grid(6, plain(10))), s.Limit("limits 10 0 20"), divide(s), s.Observe("1 over 1 12"))
	wants(t, "Read", reads(12, 1)(), api.ReadAfter, []int{1}, api.OK)
	wants(t, "Read", reads(13, 1)(), uint8(0), none, api.ErrArg)
}

// K17: the sheet of the account is that of the cartoon that was drawn.
func TestAccount(t *testing.T) {
	s := plannedSite(t)
	c, _ := cartoon.Parse(chapterCartoon)
	sheet, _ := cartoon.Compile(c)
	a := s.Account()
	want(t, "the cartoon", a.Cartoon, c)
	want(t, "the sheet", a.Sheet, sheet)
	want(t, "Has", a.Has, uint8(31))
	want(t, "the work", a.Work, work(0, []int{1, 0}, 0, 0, 0, 2, 0, 0))
	audited(t, s)
}
