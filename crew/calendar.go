package crew

import (
	"cmp"
	"iter"
	"slices"

	"giornata/api"
)

// calendar is a valid yard, valid tasks, and the day from which on plans are kept. Functions without tasks, or without that day, have none there.
type calendar struct {
	api.Yard
	tasks []api.Task
	from  int
}

// open returns the calendar of a yard and tasks.
func open(y api.Yard, l []api.Task) (calendar, api.Errno) {
	if e := CheckYard(y); e != api.OK {
		return calendar{}, e
	}
	if e := CheckTasks(l); e != api.OK {
		return calendar{}, e
	}
	return calendar{Yard: y, tasks: l}, api.OK
}

// openFrom returns the calendar of a yard and tasks from a day on.
func openFrom(y api.Yard, l []api.Task, from int) (calendar, api.Errno) {
	c, e := open(y, l)
	if e != api.OK {
		return calendar{}, e
	}
	if !isDay(from) {
		return calendar{}, api.ErrArg
	}
	c.from = from
	return c, api.OK
}

func (c calendar) hasTask(task int) bool { return task >= 0 && task < len(c.tasks) }

func (c calendar) season(day int) api.Season { return c.Seasons[day%yearDays/seasonDays] }

func (c calendar) isOpen(day int) bool {
	_, isClosed := slices.BinarySearch(c.Closed, day)
	return isDay(day) && !isClosed
}

func (c calendar) minutes(day int) int {
	if !c.isOpen(day) {
		return 0
	}
	x := c.season(day)
	return min(x.Light, x.Wet)
}

func (c calendar) batches(day int) int {
	sum := 0
	for _, x := range c.Pits {
		if isDay(day) && isAged(x, day) {
			sum += x.Batches
		}
	}
	return sum
}

// isAged reports whether the lime of a pit may be used on a day.
func isAged(x api.Lime, day int) bool { return x.Slaked+x.Age <= day }

func (c calendar) skilled(day, need int) []int {
	var out []int
	for i, x := range c.Masters {
		if x.From <= day && day < x.Until && x.Skill >= need {
			out = append(out, i)
		}
	}
	return out
}

// conditions returns what has to hold for a day that suits a task.
func (c calendar) conditions(task int) []func(day int) bool {
	x := c.tasks[task]
	return []func(day int) bool{
		c.isOpen,
		func(day int) bool { return c.minutes(day) >= x.Work },
		func(day int) bool { return len(c.skilled(day, x.Need)) > 0 },
		// Each task before this one has used up a batch.
		func(day int) bool { return c.batches(day) > task },
	}
}

func (c calendar) suits(task, day int) bool { return holds(c.conditions(task), day) }

// suiting yields the days of a span that suit a task, in ascending order.
func (c calendar) suiting(task, from, until int) iter.Seq[int] {
	return span(c.conditions(task), from, until)
}

func holds(conditions []func(day int) bool, day int) bool {
	return !slices.ContainsFunc(conditions, func(is func(day int) bool) bool { return !is(day) })
}

// span yields the days from one on, and before another one, for which all conditions hold, in ascending order.
func span(conditions []func(day int) bool, from, until int) iter.Seq[int] {
	return func(yield func(day int) bool) {
		for day := from; day < until; day++ {
			if holds(conditions, day) && !yield(day) {
				return
			}
		}
	}
}

// first returns the first one of some days; false if there is none.
func first(days iter.Seq[int]) (int, bool) {
	for day := range days {
		return day, true
	}
	return 0, false
}

// stock is how many batches are left in each pit.
type stock [api.MaxPits]int

func (c calendar) stock() stock {
	var left stock
	for i, x := range c.Pits {
		left[i] = x.Batches
	}
	return left
}

// without returns the stock with one batch of a pit less, if there is such a pit.
func (s stock) without(pit int) stock {
	if pit >= 0 && pit < len(s) {
		s[pit]--
	}
	return s
}

// turns yields the turns that a task may have on a day that suits it, with what is left of the lime; the usual one comes first.
func (c calendar) turns(task, day int, left stock) iter.Seq[api.Turn] {
	return func(yield func(api.Turn) bool) {
		masters := c.skilled(day, c.tasks[task].Need)
		slices.SortStableFunc(masters, func(i, j int) int { return cmp.Compare(c.Masters[i].Skill, c.Masters[j].Skill) })
		for pit, x := range c.Pits {
			if !isAged(x, day) || left[pit] < 1 {
				continue
			}
			for _, master := range masters {
				if !yield(api.Turn{Day: day, Pit: pit, Master: master}) {
					return
				}
			}
		}
	}
}
