package site_test

import (
	"slices"
	"testing"

	"giornata/api"
	"giornata/site"
)

// R5: methods of a nil site.
func TestNilSite(t *testing.T) {
	var s *site.Site
	for i, e := range []api.Errno{
		s.Advance(-1), s.Draw(""), s.Limit(""), s.Hire(""), s.Rule(""), divide(s), plan(s), s.Delay(-1), replan(s), s.Lay(-1, true, ""), s.Observe(""), enter(s), s.Sign(-1, ""), s.Greet(-1, -1), s.Carry(0, 0, 0), s.Lose(0, 0, 0), s.Repeat(0, 0, 0), s.Stop(-1, -1), s.Crash(-1, nil),
	} {
		want(t, "the error of the command "+string(rune('a'+i)), e, api.ErrNil)
	}
	wants(t, "Divide", of(s.Divide()), api.Cost{}, api.ErrNil)
	wants(t, "Plan", of(s.Plan()), 0, api.ErrNil)
	wants(t, "Replan", of(s.Replan()), 0, api.ErrNil)
	wants(t, "Enter", of(s.Enter()), 0, api.ErrNil)
	wants(t, "Read", of(s.Read(1, 2)), uint8(0), []int(nil), api.ErrNil)
	want(t, "Today", s.Today(), 0)
	want(t, "Pages", s.Pages(), []api.Page(nil))
	want(t, "Account", s.Account(), api.Account{})
	want(t, "Audit", s.Audit(), api.Finding{})
	want(t, "Register", s.Register(0), []api.Act(nil))
	want(t, "Wall", s.Wall(0), []api.State(nil))
}

// spoil changes a list and all behind it.
func spoil[T any](l []T, with T) {
	l = l[:cap(l)]
	for i := range l {
		l[i] = with
	}
}

// spoilAccount changes all memory of an account.
func spoilAccount(a api.Account) {
	spoil(a.Cartoon.Wall, api.Point{X: 99})
	for _, x := range a.Cartoon.Lines {
		spoil(x.Chain, api.Point{X: 99})
	}
	spoil(a.Cartoon.Lines, api.Line{})
	for _, x := range a.Cartoon.Grounds {
		spoil(x.Colours, "z")
	}
	spoil(a.Cartoon.Grounds, api.Ground{})
	for _, x := range a.Sheet.Cells {
		spoil(x.Faces, 99)
		spoil(x.Colours, "z")
	}
	spoil(a.Sheet.Cells, api.Cell{})
	spoil(a.Sheet.Seams, api.Seam{})
	spoil(a.Limits.Stages, api.Stage{})
	spoil(a.Yard.Closed, 99)
	spoil(a.Yard.Pits, api.Lime{})
	spoil(a.Yard.Masters, api.Master{})
	for _, x := range a.Division.Patches {
		spoil(x, 99)
	}
	spoil(a.Division.Patches, nil)
	spoil(a.Work.Order, 99)
	spoil(a.Work.Plan.Turns, api.Turn{Day: 99})
	spoil(a.Book.Rules, api.Rule{})
	spoil(a.Strokes, api.Stroke{})
	spoil(a.Observations, api.Observation{})
	for _, x := range a.Acts {
		spoil(x.Faces, 99)
	}
	spoil(a.Acts, api.Act{})
}

// busySite returns a site that has something of everything.
func busySite(t *testing.T) *site.Site {
	t.Helper()
	s := plannedSite(t)
	do(t, s.Delay(50), s.Rule("fast lime"), s.Lay(0, true, "lime"), s.Observe("1 over 2 1"), s.Observe("1 apart 2 1"), s.Sign(0, "crack 1 2"), s.Sign(0, "repaint blue 3"), enter(s), enter(s), replan(s))
	return s
}

// R3: results are new memory, and arguments stay.
func TestMemory(t *testing.T) {
	s := busySite(t)
	l, a, told := s.Pages(), s.Account(), site.Told(s.Pages())
	spoilAccount(s.Account())
	want(t, "the account behind a change", s.Account(), a)
	spoilAccount(site.Told(l))
	want(t, "what is told behind a change", site.Told(l), told)
	spoil(s.Pages(), api.Page{})
	want(t, "the pages behind a change", s.Pages(), l)
	for _, x := range s.Register(0) {
		spoil(x.Faces, 99)
	}
	spoil(s.Register(0), api.Act{})
	for _, x := range s.Wall(0) {
		spoil(x.Layers, api.Layer{})
	}
	spoil(s.Wall(0), api.State{})
	_, ids, e := s.Read(1, 2)
	want(t, "the error of Read", e, api.OK)
	spoil(ids, 99)
	wants(t, "Read behind a change", of(s.Read(1, 2)), api.ReadAfter, []int{1}, api.OK)
	want(t, "the register behind a change", lines(s, 0), []string{"0 1 0 crack 1 2", "0 2 0 repaint blue 3"})
	audited(t, s)
	// What a site returned does not change when the site does.
	pages, account, register := s.Pages(), s.Account(), s.Register(0)
	do(t, s.Advance(2), s.Rule("dry azurite"), s.Observe("1 void 1"), s.Sign(0, "loss 9"), s.Lay(1, true, "lime"), s.Lay(0, false, "azurite"), enter(s), replan(s), s.Delay(60))
	want(t, "the pages from before", pages, l)
	want(t, "the account from before", account, a)
	want(t, "the register from before", len(register), 2)
	audited(t, s)
}

// R3: arguments stay as they are, with all room behind them.
func TestArgumentsStay(t *testing.T) {
	s := busySite(t)
	l := s.Pages()
	roomy := slices.Grow(slices.Clone(l), 5)
	calls := map[string]func(){
		"Linked":    func() { site.Linked(roomy) },
		"Next":      func() { site.Next(roomy, 0, api.DosNote, "") },
		"Check":     func() { site.Check(roomy) },
		"Told":      func() { site.Told(roomy) },
		"Digest":    func() { site.Digest(roomy[0]) },
		"PutPage":   func() { site.PutPage(roomy[0]) },
		"PutStroke": func() { site.PutStroke(api.Stroke{}) },
	}
	for name, call := range calls {
		call()
		want(t, "the pages behind "+name, roomy, l)
		want(t, "the room behind the pages of "+name, roomy[:len(l)+1][len(l)], api.Page{})
	}
	w := work(0, append(make([]int, 0, 9), 1, 0), 0, 0, 0, 2, 0, 0)
	site.PutWork(w)
	want(t, "the work", w, work(0, []int{1, 0}, 0, 0, 0, 2, 0, 0))
	kept := append(make([]int, 0, 9), 64, -1, 99)
	do(t, s.Crash(0, kept))
	want(t, "the numbers of Crash", kept[:4], []int{64, -1, 99, 0})
}

// R3: a nil slice and an empty one are equivalent.
func TestNilAndEmpty(t *testing.T) {
	want(t, "Check", site.Check([]api.Page{}), api.Finding{Ok: true})
	want(t, "Told", site.Told([]api.Page{}), api.Account{})
	wants(t, "Next", of(site.Next([]api.Page{}, 1, api.DosNote, "")), api.Page{Day: 1, Kind: api.DosNote}, api.OK)
	wants(t, "PutWork", of(site.PutWork(api.Work{Order: []int{}, Plan: api.Plan{Turns: []api.Turn{}}})), "work 0\norder\n", api.OK)
	want(t, "Sum", site.Sum([]byte{}), site.Sum(nil))
	do(t, newSite(t, 1).Crash(0, []int{}))
}

// R1: no function panics, whatever it is given; with an error there are no results.
func TestAnyArguments(t *testing.T) {
	few := []int{tiny, tiny + 1, -9, -1, 0, 0, 0, 1, 1, 2, 3, 7, 8, 9, 11, 12, 13, 24, 25, 99, 100, 999, 1000, 99999, 100000, 100001, huge - 1, huge}
	d := &dice{22}
	n := func() int { return few[d.roll(len(few))] }
	texts := []string{"", " ", "\n", "x", "\xff\x00", chapterCartoon, chapterLimits, chapterYard(), chapterWork, twoDays, bentCartoon, "stroke 0 0 1 lime", "1 0 1 over 1 2", "0 1 0 crack 1", "fast lime", "1 0 fast lime", "1 over 2 1", "crack 1", "undo 9", "lime", "azurite", "page 0 0 1 0\nprev " + zeros + "\n", "setup 2 1000\ndivide\n"}
	text := func() string {
		if d.roll(3) == 0 {
			return d.spoilt(texts[d.roll(len(texts))])
		}
		return texts[d.roll(len(texts))]
	}
	s := newSite(t, 2)
	for i := range 3000 {
		if i%100 == 0 {
			s = []*site.Site{newSite(t, 2), dividedSite(t), plannedSite(t)}[i/100%3]
		}
		var l []api.Page
		for range d.roll(4) {
			p := api.Page{Seq: len(l), Day: n(), Kind: uint8(n()), Body: text()}
			if len(l) > 0 {
				p.Prev = site.Digest(l[len(l)-1])
			}
			l = append(l, p)
		}
		at, _ := site.Linked(l)
		f := site.Check(l)
		want(t, "the finding", f.Ok || f.At <= at || at == 0, true)
		site.Told(l)
		x, e := site.Next(l, n(), uint8(n()), text())
		want(t, "Next with an error", e == api.OK || isZero(x), true)
		w := api.Work{Order: []int{n(), n()}[:d.roll(3)], Plan: api.Plan{Turns: []api.Turn{{Day: n(), Pit: n(), Master: n()}, {Day: n()}}[:d.roll(3)]}, Done: n()}
		site.PutWork(w)
		site.PutStroke(api.Stroke{Task: n(), Day: n(), Colour: text()})
		site.GetPage(text())
		site.GetWork(text())
		site.GetStroke(text())
		out, line, e := site.Run(text())
		want(t, "Run with an error", e == api.OK && line == 0 || out == "", true)
		switch d.roll(16) {
		case 0:
			s.Advance(n())
		case 1:
			s.Draw(text())
		case 2:
			s.Limit(text())
		case 3:
			s.Hire(text())
		case 4:
			s.Rule(text())
		case 5:
			s.Delay(n())
		case 6:
			s.Lay(n(), d.roll(2) > 0, text())
		case 7:
			s.Observe(text())
		case 8:
			s.Sign(n(), text())
		case 9:
			s.Greet(n(), n())
		case 10:
			s.Carry(n(), n(), n())
		case 11:
			s.Lose(n(), n(), n())
			s.Repeat(n(), n(), n())
		case 12:
			s.Stop(n(), n())
		case 13:
			s.Crash(n(), []int{n(), n(), n()})
		case 14:
			s.Read(n(), n())
			s.Register(n())
			s.Wall(n())
		case 15:
			s.Divide()
			s.Plan()
			s.Replan()
			s.Enter()
		}
		want(t, "Audit", s.Audit(), api.Finding{Ok: true})
	}
}
