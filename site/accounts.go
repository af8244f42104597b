package site

import (
	"slices"

	"giornata/api"
	"giornata/crew"
	"giornata/order"
	"giornata/pigment"
)

// taskNeed is the skill that all tasks need.
const taskNeed = 1

// account is what pages say.
type account struct{ api.Account }

// has reports whether there is all that some bits stand for.
func (a *account) has(what uint8) bool { return a.Has&what == what }

// bestOrder returns the order in which the patches are planned first of all.
func (a *account) bestOrder() ([]int, api.Errno) {
	o, e := order.From(a.Sheet, a.Division)
	if e != api.OK {
		return nil, e
	}
	if o.N > api.MaxWait {
		return order.First(o)
	}
	s, e := order.Wait(o, a.Yard.Dry)
	return s.Order, e
}

// tasks returns the tasks for an order.
func (a *account) tasks(order []int) ([]api.Task, api.Errno) {
	return crew.Tasks(a.Sheet, a.Division, order, taskNeed)
}

// firstWork returns the work as it is planned on a day.
func (a *account) firstWork(day int) (api.Work, api.Errno) {
	best, e := a.bestOrder()
	if e != api.OK {
		return api.Work{}, e
	}
	tasks, e := a.tasks(best)
	if e != api.OK {
		return api.Work{}, e
	}
	plan, e := crew.Earliest(a.Yard, tasks, day)
	if e != api.OK {
		return api.Work{}, e
	}
	return api.Work{Order: best, Plan: plan}, api.OK
}

// laterWork returns what becomes of the work when it is planned anew on a day.
func (a *account) laterWork(day int) (api.Work, api.Errno) {
	tasks, e := a.tasks(a.Work.Order)
	if e != api.OK {
		return api.Work{}, e
	}
	done := a.done(day)
	plan, e := crew.Replan(a.Yard, tasks, a.Work.Plan, done, day+1)
	if e != api.OK {
		return api.Work{}, e
	}
	return api.Work{Order: a.Work.Order, Plan: plan, Done: done}, api.OK
}

// done returns how many turns of the work there have been when a day is over.
func (a *account) done(day int) int {
	count := 0
	for _, x := range a.Work.Plan.Turns {
		if x.Day <= day {
			count++
		}
	}
	return count
}

// strokeFault returns why a stroke may not be laid on its Day, or OK.
func (a *account) strokeFault(x api.Stroke) api.Errno {
	if !a.has(api.HasWork) {
		return api.ErrState
	}
	// There are tasks, because the work was planned for them.
	tasks, _ := a.tasks(a.Work.Order)
	if x.Task < 0 || x.Task >= len(tasks) || !slices.Contains(tasks[x.Task].Colours, x.Colour) {
		return api.ErrNone
	}
	isTwice := func(y api.Stroke) bool { return y.Task == x.Task && y.Colour == x.Colour }
	if slices.ContainsFunc(a.Strokes, isTwice) {
		return api.ErrTwice
	}
	day := a.Work.Plan.Turns[x.Task].Day
	if x.Wet && x.Day != day || !x.Wet && x.Day <= day+a.Yard.Dry {
		return api.ErrTime
	}
	if !a.mayBeOn(x) || !a.mayLieOver(x) {
		return api.ErrState
	}
	return api.OK
}

// mayBeOn reports whether the rules allow the colour of a stroke on the plaster as it is then.
func (a *account) mayBeOn(x api.Stroke) bool {
	state := pigment.State(a.Book, x.Day, x.Colour)
	return state == api.PigFresh || state == api.PigDry && !x.Wet
}

// mayLieOver reports whether the rules allow a stroke over those that were laid on its task.
func (a *account) mayLieOver(x api.Stroke) bool {
	for _, y := range a.Strokes {
		if y.Task != x.Task {
			continue
		}
		if may, _ := pigment.MayOver(a.Book, x.Day, x.Colour, y.Colour); !may {
			return false
		}
	}
	return true
}

// things returns how many things the observations are about.
func (a *account) things() int { return len(a.Division.Patches) }

// copied returns the account with memory of its own.
func (a *account) copied() api.Account {
	out := a.Account
	out.Cartoon.Wall = slices.Clone(out.Cartoon.Wall)
	out.Cartoon.Lines = copies(out.Cartoon.Lines, func(x *api.Line) { x.Chain = slices.Clone(x.Chain) })
	out.Cartoon.Grounds = copies(out.Cartoon.Grounds, func(x *api.Ground) { x.Colours = slices.Clone(x.Colours) })
	out.Sheet.Cells = copies(out.Sheet.Cells, func(x *api.Cell) {
		x.Faces, x.Colours = slices.Clone(x.Faces), slices.Clone(x.Colours)
	})
	out.Sheet.Seams = slices.Clone(out.Sheet.Seams)
	out.Limits.Stages = slices.Clone(out.Limits.Stages)
	out.Yard.Closed = slices.Clone(out.Yard.Closed)
	out.Yard.Pits = slices.Clone(out.Yard.Pits)
	out.Yard.Masters = slices.Clone(out.Yard.Masters)
	out.Division.Patches = copies(out.Division.Patches, func(x *[]int) { *x = slices.Clone(*x) })
	out.Work.Order = slices.Clone(out.Work.Order)
	out.Work.Plan.Turns = slices.Clone(out.Work.Plan.Turns)
	out.Book.Rules = slices.Clone(out.Book.Rules)
	out.Strokes = slices.Clone(out.Strokes)
	out.Observations = slices.Clone(out.Observations)
	out.Acts = copies(out.Acts, func(x *api.Act) { x.Faces = slices.Clone(x.Faces) })
	return out
}

// copies returns a copy of a list whose elements were made to share no memory with those of the list.
func copies[T any](l []T, part func(x *T)) []T {
	out := slices.Clone(l)
	for i := range out {
		part(&out[i])
	}
	return out
}

// nextId returns the Id that comes behind all those of a list.
func nextId[T any](l []T, id func(x T) int) int {
	last := 0
	for _, x := range l {
		last = max(last, id(x))
	}
	return last + 1
}
