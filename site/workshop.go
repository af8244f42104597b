package site

import (
	"slices"
	"strconv"

	"giornata/api"
	"giornata/cartoon"
	"giornata/crew"
	"giornata/days"
	"giornata/keep"
	"giornata/pigment"
	"giornata/reading"
)

// workshop is the office whose acts are entered.
const workshop = 0

// Draw writes the cartoon of a source.
func (s *Site) Draw(source string) api.Errno {
	if s == nil {
		return api.ErrNil
	}
	c, fault := cartoon.Parse(source)
	if fault.Err != api.OK {
		return fault.Err
	}
	if s.dossier.account.has(api.HasSheet) {
		return api.ErrState
	}
	sheet, e := cartoon.Compile(c)
	if e != api.OK {
		return e
	}
	if len(sheet.Cells) > api.MaxDivide {
		return api.ErrLimit
	}
	return s.write(api.DosCartoon, cartoon.Print(c))
}

// Limit writes a line of limits.
func (s *Site) Limit(line string) api.Errno {
	if s == nil {
		return api.ErrNil
	}
	if _, e := days.ReadLimits(line); e != api.OK {
		return e
	}
	if s.dossier.account.has(api.HasDivision) {
		return api.ErrState
	}
	return s.write(api.DosLimits, line)
}

// Hire writes a text of a yard.
func (s *Site) Hire(yard string) api.Errno {
	if s == nil {
		return api.ErrNil
	}
	if _, e := crew.ReadYard(yard); e != api.OK {
		return e
	}
	return s.write(api.DosYard, yard)
}

// Rule writes a rule that is known from today on.
func (s *Site) Rule(line string) api.Errno {
	if s == nil {
		return api.ErrNil
	}
	a := &s.dossier.account
	line = s.dated(nextId(a.Book.Rules, func(r api.Rule) int { return r.Id }), line)
	r, e := pigment.Read(line)
	if e != api.OK {
		return e
	}
	if _, e := pigment.Append(a.Book, r); e != api.OK {
		return e
	}
	return s.write(api.DosRule, line)
}

// Divide writes the first least division, and returns its cost.
func (s *Site) Divide() (api.Cost, api.Errno) {
	if s == nil {
		return api.Cost{}, api.ErrNil
	}
	a := &s.dossier.account
	if !a.has(api.HasSheet|api.HasLimits) || a.has(api.HasDivision) {
		return api.Cost{}, api.ErrState
	}
	d, _, e := days.Least(a.Sheet, a.Limits)
	if e != api.OK {
		return api.Cost{}, e
	}
	body, _ := days.Write(d)
	if e := s.write(api.DosDivision, body); e != api.OK {
		return api.Cost{}, e
	}
	return days.CostOf(a.Sheet, d)
}

// Plan writes the work as it is planned first of all, and returns its end.
func (s *Site) Plan() (int, api.Errno) {
	if s == nil {
		return 0, api.ErrNil
	}
	a := &s.dossier.account
	if !a.has(api.HasDivision|api.HasYard) || a.has(api.HasWork) {
		return 0, api.ErrState
	}
	w, e := a.firstWork(s.today)
	if e != api.OK {
		return 0, e
	}
	return s.writeWork(w)
}

// Delay writes the yard with one more closed day.
func (s *Site) Delay(day int) api.Errno {
	if s == nil {
		return api.ErrNil
	}
	a := &s.dossier.account
	if !a.has(api.HasYard) {
		return api.ErrState
	}
	y, e := crew.Close(a.Yard, day)
	if e != api.OK {
		return e
	}
	body, _ := crew.WriteYard(y)
	return s.write(api.DosYard, body)
}

// Replan writes the work as it is planned anew, and returns its end.
func (s *Site) Replan() (int, api.Errno) {
	if s == nil {
		return 0, api.ErrNil
	}
	a := &s.dossier.account
	if !a.has(api.HasWork) {
		return 0, api.ErrState
	}
	w, e := a.laterWork(s.today)
	if e != api.OK {
		return 0, e
	}
	return s.writeWork(w)
}

// Lay writes a stroke of today.
func (s *Site) Lay(task int, wet bool, colour string) api.Errno {
	if s == nil {
		return api.ErrNil
	}
	x := api.Stroke{Task: task, Colour: colour, Day: s.today, Wet: wet}
	if e := s.dossier.account.strokeFault(x); e != api.OK {
		return e
	}
	body, _ := PutStroke(x)
	return s.write(api.DosStroke, body)
}

// Observe writes an observation that is known from today on.
func (s *Site) Observe(line string) api.Errno {
	if s == nil {
		return api.ErrNil
	}
	a := &s.dossier.account
	if !a.has(api.HasDivision) {
		return api.ErrState
	}
	line = s.dated(nextId(a.Observations, func(x api.Observation) int { return x.Id }), line)
	x, e := reading.Parse(line)
	if e != api.OK {
		return e
	}
	if _, e := reading.Append(a.things(), a.Observations, x); e != api.OK {
		return e
	}
	return s.write(api.DosObservation, line)
}

// Enter writes the first act of the workshop's register that was not entered, and returns how many are left.
func (s *Site) Enter() (int, api.Errno) {
	if s == nil {
		return 0, api.ErrNil
	}
	entered := keep.Count(s.dossier.account.Acts)
	isEntered := func(x api.Act) bool { return x.Number <= entered.Have[x.Office] }
	left := slices.DeleteFunc(s.Register(workshop), isEntered)
	if len(left) == 0 {
		return 0, api.ErrNone
	}
	body, _ := keep.Write(left[0])
	if e := s.write(api.DosAct, body); e != api.OK {
		return 0, e
	}
	return len(left) - 1, api.OK
}

// dated returns a line behind an Id and today.
func (s *Site) dated(id int, line string) string {
	return strconv.Itoa(id) + " " + strconv.Itoa(s.today) + " " + line
}

// write writes a page of today.
func (s *Site) write(kind uint8, body string) api.Errno {
	p, e := next(s.dossier.pages, s.today, kind, body)
	if e != api.OK {
		return e
	}
	// No command writes a page with which something is wrong; if one did, the page would be refused here.
	if s.dossier.add(p) != 0 {
		return api.ErrState
	}
	return api.OK
}

// writeWork writes a work, and returns its end.
func (s *Site) writeWork(w api.Work) (int, api.Errno) {
	body, _ := PutWork(w)
	if e := s.write(api.DosPlan, body); e != api.OK {
		return 0, e
	}
	return crew.End(w.Plan), api.OK
}
