package site

import (
	"slices"

	"giornata/api"
	"giornata/cartoon"
	"giornata/crew"
	"giornata/days"
	"giornata/keep"
	"giornata/pigment"
	"giornata/reading"
)

// dossier is pages with which nothing is wrong, and what they say.
type dossier struct {
	pages   []api.Page
	account account
}

// wrong is what a judge leaves a page with.
type wrong uint8

// Check returns what is wrong with the first page with which something is wrong.
func Check(l []api.Page) api.Finding {
	d, what := opened(l)
	if what == 0 {
		return api.Finding{Ok: true}
	}
	return api.Finding{At: len(d.pages), What: what}
}

// Told returns what the pages say that are before the first one with which something is wrong.
func Told(l []api.Page) api.Account {
	d, _ := opened(l)
	return d.account.Account
}

// opened returns the dossier of the pages before the first one with which something is wrong, and what that is; 0 if nothing is.
func opened(l []api.Page) (dossier, uint8) {
	var d dossier
	for _, p := range l {
		if what := d.add(p); what != 0 {
			return d, what
		}
	}
	return d, 0
}

// add adds a page, or returns what is wrong with it.
func (d *dossier) add(p api.Page) uint8 {
	if misfit(d.pages, p) != api.OK {
		return api.FindLink
	}
	if what := d.account.tell(p); what != 0 {
		return what
	}
	d.pages = append(d.pages, p)
	return 0
}

// tell adds what a page says that is linked, or returns what is wrong with it.
func (a *account) tell(p api.Page) (what uint8) {
	defer func() {
		if left := recover(); left != nil {
			what = uint8(left.(wrong))
		}
	}()
	a.judges()[p.Kind](p)
	return 0
}

// expect leaves a page for tell, which recovers, unless something is so.
func expect(is bool, what uint8) {
	if !is {
		panic(wrong(what))
	}
}

// formed returns what was read, and leaves a page that has no form.
func formed[T any](x T, e api.Errno) T {
	expect(e == api.OK, api.FindForm)
	return x
}

// judges returns a judge for each kind of pages: it adds what a page says if all is as it has to be.
func (a *account) judges() map[uint8]func(p api.Page) {
	return map[uint8]func(p api.Page){
		api.DosCartoon: func(p api.Page) { a.judgeCartoon(p.Body) },
		api.DosLimits: func(p api.Page) {
			l := formed(days.ReadLimits(p.Body))
			expect(!a.has(api.HasDivision), api.FindState)
			a.Limits = l
			a.Has |= api.HasLimits
		},
		api.DosYard: func(p api.Page) {
			a.Yard = formed(crew.ReadYard(p.Body))
			a.Has |= api.HasYard
		},
		api.DosRule: func(p api.Page) {
			r := formed(pigment.Read(p.Body))
			b, e := pigment.Append(a.Book, r)
			expect(e == api.OK && r.Known == p.Day, api.FindRule)
			a.Book = b
		},
		api.DosDivision: func(p api.Page) { a.judgeDivision(formed(days.Read(p.Body))) },
		api.DosPlan:     func(p api.Page) { a.judgeWork(formed(GetWork(p.Body)), p.Day) },
		api.DosStroke: func(p api.Page) {
			x := formed(GetStroke(p.Body))
			expect(a.has(api.HasWork), api.FindState)
			expect(x.Day == p.Day && a.strokeFault(x) == api.OK, api.FindStroke)
			a.Strokes = append(a.Strokes, x)
		},
		api.DosObservation: func(p api.Page) {
			x := formed(reading.Parse(p.Body))
			expect(a.has(api.HasDivision), api.FindState)
			l, e := reading.Append(a.things(), a.Observations, x)
			expect(e == api.OK && x.Known == p.Day, api.FindObservation)
			a.Observations = l
		},
		api.DosAct: func(p api.Page) {
			x := formed(keep.Read(p.Body))
			expect(a.isNextAct(x) && x.Day <= p.Day, api.FindAct)
			a.Acts = append(a.Acts, x)
		},
		api.DosNote: func(api.Page) {},
	}
}

// judgeCartoon adds the cartoon of a source as it is printed.
func (a *account) judgeCartoon(source string) {
	c, fault := cartoon.Parse(source)
	expect(fault.Err == api.OK && cartoon.Print(c) == source, api.FindForm)
	expect(!a.has(api.HasSheet), api.FindState)
	s, e := cartoon.Compile(c)
	expect(e == api.OK && len(s.Cells) <= api.MaxDivide, api.FindCartoon)
	a.Cartoon, a.Sheet = c, s
	a.Has |= api.HasSheet
}

// judgeDivision adds a division.
func (a *account) judgeDivision(d api.Division) {
	expect(a.has(api.HasSheet|api.HasLimits) && !a.has(api.HasDivision), api.FindState)
	at, _, e := days.Check(a.Sheet, a.Limits, d)
	expect(e == api.OK && at < 0, api.FindDivision)
	isBest, e := days.Best(a.Sheet, a.Limits, d)
	expect(e == api.OK && isBest, api.FindLeast)
	a.Division = d
	a.Has |= api.HasDivision
}

// judgeWork adds a work that was planned on a day.
func (a *account) judgeWork(w api.Work, day int) {
	expect(a.has(api.HasDivision|api.HasYard), api.FindState)
	if a.has(api.HasWork) {
		a.judgeLaterWork(w, day)
	} else {
		a.judgeFirstWork(w, day)
	}
	a.Work = w
	a.Has |= api.HasWork
}

func (a *account) judgeFirstWork(w api.Work, day int) {
	best, e := a.bestOrder()
	expect(e == api.OK && slices.Equal(w.Order, best), api.FindOrder)
	tasks, e := a.tasks(w.Order)
	expect(e == api.OK && w.Done == 0, api.FindPlan)
	isKept, e := crew.CheckPlan(a.Yard, tasks, day, w.Plan)
	expect(e == api.OK && isKept, api.FindPlan)
	earliest, e := crew.Earliest(a.Yard, tasks, day)
	expect(e == api.OK && slices.Equal(w.Plan.Turns, earliest.Turns), api.FindEnd)
}

func (a *account) judgeLaterWork(w api.Work, day int) {
	expect(slices.Equal(w.Order, a.Work.Order), api.FindOrder)
	expect(w.Done == a.done(day), api.FindPlan)
	later, e := a.laterWork(day)
	expect(e == api.OK && slices.Equal(w.Plan.Turns, later.Plan.Turns), api.FindEnd)
}

// isNextAct reports whether an act may stand behind the acts that there are of its office.
func (a *account) isNextAct(x api.Act) bool {
	own := keep.By(a.Acts, x.Office)
	if x.Number != len(own)+1 {
		return false
	}
	return len(own) == 0 || x.Day >= own[len(own)-1].Day
}
