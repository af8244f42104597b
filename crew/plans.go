package crew

import (
	"slices"

	"giornata/api"
)

// Earliest returns the usual plan in which no task is later than in any other plan.
func Earliest(y api.Yard, l []api.Task, from int) (api.Plan, api.Errno) {
	c, days, e := openEarliest(y, l, from)
	if e != api.OK {
		return api.Plan{}, e
	}
	return c.usual(nil, days), api.OK
}

// CheckPlan returns whether a plan is kept from a day on.
func CheckPlan(y api.Yard, l []api.Task, from int, p api.Plan) (bool, api.Errno) {
	c, e := openFrom(y, l, from)
	if e != api.OK {
		return false, e
	}
	return len(p.Turns) == len(l) && c.areKept(p.Turns), api.OK
}

// End returns the day of the last turn of a plan, or -1 if it has none.
func End(p api.Plan) int {
	if len(p.Turns) == 0 {
		return -1
	}
	return p.Turns[len(p.Turns)-1].Day
}

// Bounds returns the days before which no plan has its tasks.
func Bounds(y api.Yard, l []api.Task, from int) ([]int, api.Errno) {
	_, days, e := openEarliest(y, l, from)
	return days, e
}

// CheckBounds returns whether bounds show, without a search, that no plan has a task before its bound.
func CheckBounds(y api.Yard, l []api.Task, from int, bounds []int) (bool, api.Errno) {
	c, e := openFrom(y, l, from)
	if e != api.OK {
		return false, e
	}
	if len(bounds) != len(l) {
		return false, api.OK
	}
	var before []int
	for task, bound := range bounds {
		bound = min(bound, c.until())
		if _, is := first(c.suiting(task, c.since(before), bound)); is {
			return false, api.OK
		}
		before = append(before, bound)
	}
	return true, api.OK
}

// Slack returns how many days later each task can be done without a later end.
func Slack(y api.Yard, l []api.Task, from int) ([]int, api.Errno) {
	c, days, e := openEarliest(y, l, from)
	if e != api.OK {
		return nil, e
	}
	slack := c.latest(days)
	for task, day := range days {
		slack[task] -= day
	}
	return slack, api.OK
}

// openEarliest returns the calendar of a yard and tasks from a day on, and the least days of all tasks.
func openEarliest(y api.Yard, l []api.Task, from int) (calendar, []int, api.Errno) {
	c, e := openFrom(y, l, from)
	if e != api.OK {
		return calendar{}, nil, e
	}
	var days []int
	for range l {
		day, is := c.soonest(days)
		if !is {
			return calendar{}, nil, api.ErrSpan
		}
		days = append(days, day)
	}
	return c, days, api.OK
}

// until returns the day before which all tasks have to be done.
func (c calendar) until() int { return c.from + api.MaxSpan }

// since returns the day from which on the next task may be done, behind the days of those before it.
func (c calendar) since(before []int) int {
	task, day := len(before), c.from
	if task > 0 {
		day = max(day, before[task-1]+1)
	}
	for _, other := range c.tasks[task].After {
		day = max(day, before[other]+c.Dry+1)
	}
	return day
}

// soonest returns the first day on which the next task can be done, behind the days of those before it; false if there is none.
func (c calendar) soonest(before []int) (int, bool) {
	return first(c.suiting(len(before), c.since(before), c.until()))
}

// allows reports whether the next task can be done on a day, behind the days of those before it.
func (c calendar) allows(before []int, day int) bool {
	return day >= c.since(before) && day < c.until() && c.suits(len(before), day)
}

// areKept reports whether the turns of all tasks are those of a plan that is kept.
func (c calendar) areKept(turns []api.Turn) bool {
	left := c.stock()
	var before []int
	for _, x := range turns {
		if !c.allows(before, x.Day) || !c.offers(len(before), x, left) {
			return false
		}
		before = append(before, x.Day)
		left = left.without(x.Pit)
	}
	return true
}

// offers reports whether a task may have a turn on a day that suits it, with what is left of the lime.
func (c calendar) offers(task int, turn api.Turn, left stock) bool {
	for x := range c.turns(task, turn.Day, left) {
		if x == turn {
			return true
		}
	}
	return false
}

// usual returns the plan with some days, of which the first turns stay as they are, and the further ones are usual.
func (c calendar) usual(stay []api.Turn, days []int) api.Plan {
	turns, left := slices.Clone(stay), c.stock()
	for _, x := range stay {
		left = left.without(x.Pit)
	}
	for task := len(stay); task < len(days); task++ {
		// There is one: no turn before has used up more than one of the task + 1 batches.
		for x := range c.turns(task, days[task], left) {
			turns, left = append(turns, x), left.without(x.Pit)
			break
		}
	}
	return api.Plan{Turns: turns}
}

// latest returns the greatest days that tasks have in plans that end as early as the one with their least days.
func (c calendar) latest(least []int) []int {
	days := slices.Clone(least)
	for task := len(days) - 2; task >= 0; task-- {
		until := days[task+1]
		for later := task + 1; later < len(days); later++ {
			if slices.Contains(c.tasks[later].After, task) {
				until = min(until, days[later]-c.Dry)
			}
		}
		for day := range c.suiting(task, least[task], until) {
			days[task] = day
		}
	}
	return days
}
