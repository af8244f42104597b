package crew

import (
	"slices"

	"giornata/api"
	"giornata/cartoon"
	"giornata/days"
)

// maxTaskColours is a limit of the chapter that package api does not name.
const maxTaskColours = 40

// CheckTasks returns OK if tasks are valid. Each error is looked for in all of them before the next one is.
func CheckTasks(l []api.Task) api.Errno {
	if len(l) > api.MaxTasks || slices.ContainsFunc(l, func(x api.Task) bool { return len(x.Colours) > maxTaskColours }) {
		return api.ErrLimit
	}
	for i, x := range l {
		if !isTask(x, i) {
			return api.ErrArg
		}
	}
	return api.OK
}

// Fits reports whether a day suits a task.
func Fits(y api.Yard, l []api.Task, task, day int) bool {
	c, e := open(y, l)
	return e == api.OK && c.hasTask(task) && c.suits(task, day)
}

// Days returns the days of a span that suit a task.
func Days(y api.Yard, l []api.Task, task, from, until int) ([]int, api.Errno) {
	c, e := open(y, l)
	if e != api.OK {
		return nil, e
	}
	if !c.hasTask(task) {
		return nil, api.ErrNone
	}
	if from < 0 || from > until || until > endOfDays {
		return nil, api.ErrArg
	}
	return slices.Collect(c.suiting(task, from, until)), api.OK
}

// Tasks returns the tasks of a division whose patches are laid in an order.
func Tasks(s api.Sheet, d api.Division, order []int, need int) ([]api.Task, api.Errno) {
	if e := checkDivision(s, d); e != api.OK {
		return nil, e
	}
	if !isOrder(order, len(d.Patches)) || !isSkill(need) {
		return nil, api.ErrArg
	}
	near := neighbours(s, d)
	var out []api.Task
	for i, patch := range order {
		x := api.Task{Need: need}
		x.Work, _ = days.Work(s, d.Patches[patch])
		x.Colours, _ = cartoon.Colours(s, d.Patches[patch])
		for before, other := range order[:i] {
			if near[api.Pair{A: patch, B: other}] {
				x.After = append(x.After, before)
			}
		}
		out = append(out, x)
	}
	if e := CheckTasks(out); e != api.OK {
		return nil, e
	}
	return out, api.OK
}

// checkDivision returns why there can be no tasks of a division, or OK.
func checkDivision(s api.Sheet, d api.Division) api.Errno {
	if e := cartoon.CheckSheet(s); e != api.OK {
		return e
	}
	if _, e := days.Seams(s, d); e != api.OK {
		return api.ErrArg
	}
	if len(d.Patches) > api.MaxTasks {
		return api.ErrLimit
	}
	return api.OK
}

// neighbours returns the pairs of patches of a whole division between which there is a seam, each in both directions.
func neighbours(s api.Sheet, d api.Division) map[api.Pair]bool {
	var patchOf [api.MaxCells]int
	for i, patch := range d.Patches {
		for _, cell := range patch {
			patchOf[cell] = i
		}
	}
	near := map[api.Pair]bool{}
	for _, x := range s.Seams {
		a, b := patchOf[x.A], patchOf[x.B]
		near[api.Pair{A: a, B: b}], near[api.Pair{A: b, B: a}] = true, true
	}
	return near
}

// isOrder reports whether a list has each number below n once.
func isOrder(list []int, n int) bool {
	for i, x := range list {
		if x < 0 || x >= n || slices.Contains(list[:i], x) {
			return false
		}
	}
	return len(list) == n
}

// isTask reports whether a task is valid behind some number of others.
func isTask(x api.Task, before int) bool {
	return isWithin(x.Work, 1, api.MaxMinutes) && isSkill(x.Need) && areAscending(x.After, before) &&
		!slices.ContainsFunc(x.Colours, func(colour string) bool { return len(colour) > api.MaxName })
}
