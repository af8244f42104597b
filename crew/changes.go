package crew

import (
	"iter"
	"slices"

	"giornata/api"
)

// way is days for all tasks, and how many of those that were not done keep the days that they had.
type way struct {
	days []int
	kept int
}

// Replan returns the plan that ends first, and then changes least, when the first tasks were done.
func Replan(y api.Yard, l []api.Task, old api.Plan, done, from int) (api.Plan, api.Errno) {
	c, e := open(y, l)
	if e != api.OK {
		return api.Plan{}, e
	}
	if done < 0 || done > len(l) || done > len(old.Turns) || !isDay(from) {
		return api.Plan{}, api.ErrArg
	}
	c.from = from
	stay := old.Turns[:done]
	days := daysOf(stay)
	if !areAscending(days, from) {
		return api.Plan{}, api.ErrState
	}
	if !c.haveDried(days) {
		return api.Plan{}, api.ErrSpan
	}
	best, is := least(c.ways(days, daysOf(old.Turns)), measure)
	if !is {
		return api.Plan{}, api.ErrSpan
	}
	return c.usual(stay, best.days), api.OK
}

// Changed returns the tasks that do not have the same day in two plans.
func Changed(old, now api.Plan) []int {
	var out []int
	both := min(len(old.Turns), len(now.Turns))
	for task := range max(len(old.Turns), len(now.Turns)) {
		if task >= both || old.Turns[task].Day != now.Turns[task].Day {
			out = append(out, task)
		}
	}
	return out
}

func daysOf(turns []api.Turn) []int {
	var out []int
	for _, x := range turns {
		out = append(out, x.Day)
	}
	return out
}

// haveDried reports whether the first tasks were done, on ascending days, when those that they come after had dried.
func (c calendar) haveDried(days []int) bool {
	// What was done may be earlier than the day from which the plan is kept.
	c.from = 0
	for task, day := range days {
		if day < c.since(days[:task]) {
			return false
		}
	}
	return true
}

// ways yields ways to go on behind the days of the first tasks, in which each further task keeps its old day, or has the first day that it can have.
// For each set of tasks that can keep their days the earliest way is among them, so no other way need be looked at.
func (c calendar) ways(done, old []int) iter.Seq[way] {
	return func(yield func(way) bool) {
		kept := map[int]bool{}
		var goOn func(days []int) bool
		goOn = func(days []int) bool {
			task := len(days)
			if task == len(c.tasks) {
				return yield(way{slices.Clone(days), len(kept)})
			}
			if task < len(old) && c.allows(days, old[task]) {
				kept[task] = true
				wanted := goOn(append(days, old[task]))
				delete(kept, task)
				if !wanted {
					return false
				}
			}
			day, is := c.soonest(days)
			if !is || task < len(old) && day == old[task] {
				return true
			}
			return goOn(append(days, day))
		}
		goOn(done)
	}
}

// measure returns the numbers by which ways are compared: their end, if there is one, how many tasks keep their days (the more, the less), and the days.
func measure(w way) []int {
	end := w.days[max(0, len(w.days)-1):]
	return slices.Concat(end, []int{-w.kept}, w.days)
}

// least returns the first one of some plans by the numbers by which they are compared; false if there is none.
func least[P any](plans iter.Seq[P], measure func(P) []int) (P, bool) {
	var best P
	found := false
	for p := range plans {
		if !found || slices.Compare(measure(p), measure(best)) < 0 {
			best, found = p, true
		}
	}
	return best, found
}
