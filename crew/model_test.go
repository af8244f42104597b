package crew_test

import (
	"cmp"
	"slices"

	"giornata/api"
)

// model is a yard and tasks by the words of the chapter alone: it lists all days that tasks can have.
type model struct {
	api.Yard
	l []api.Task
}

func (m model) open(d int) bool { return 0 <= d && d <= 100000 && !slices.Contains(m.Closed, d) }

func (m model) minutes(d int) int {
	if !m.open(d) {
		return 0
	}
	x := m.Seasons[(d-d/360*360)/30]
	if x.Light < x.Wet {
		return x.Light
	}
	return x.Wet
}

func (m model) batches(d int) int {
	sum := 0
	for _, x := range m.Pits {
		if 0 <= d && d <= 100000 && d >= x.Slaked+x.Age {
			sum += x.Batches
		}
	}
	return sum
}

func (m model) skilled(d, need int) []int {
	var out []int
	for i, x := range m.Masters {
		for there := x.From; there < x.Until; there++ {
			if there == d && need <= x.Skill {
				out = append(out, i)
			}
		}
	}
	return out
}

func (m model) suits(i, d int) bool {
	return m.open(d) && m.minutes(d) >= m.l[i].Work && len(m.skilled(d, m.l[i].Need)) > 0 && m.batches(d) >= i+1
}

// isKept spells out what a kept plan is, where of the first turns, as many as done says, nothing is said that need not hold for turns that stay.
func (m model) isKept(p api.Plan, from, done int) bool {
	if len(p.Turns) != len(m.l) {
		return false
	}
	used := map[int]int{}
	for i, x := range p.Turns {
		if i > 0 && x.Day <= p.Turns[i-1].Day {
			return false
		}
		for _, j := range m.l[i].After {
			if x.Day <= p.Turns[j].Day+m.Dry {
				return false
			}
		}
		used[x.Pit]++
		if i < done {
			continue
		}
		if x.Day < from || x.Day >= from+400 || !m.suits(i, x.Day) || !slices.Contains(m.skilled(x.Day, m.l[i].Need), x.Master) {
			return false
		}
		if x.Pit < 0 || x.Pit >= len(m.Pits) || m.Pits[x.Pit].Slaked+m.Pits[x.Pit].Age > x.Day || used[x.Pit] > m.Pits[x.Pit].Batches {
			return false
		}
	}
	return true
}

// lists returns the days of all plans that are kept from a day on and begin with days that stay, in order.
func (m model) lists(stay []int, from int) [][]int {
	var out [][]int
	var extend func(days []int)
	extend = func(days []int) {
		i := len(days)
		if i == len(m.l) {
			out = append(out, slices.Clone(days))
			return
		}
		for d := from; d < from+400; d++ {
			late := i == 0 || d > days[i-1]
			for _, j := range m.l[i].After {
				late = late && d > days[j]+m.Dry
			}
			if late && m.suits(i, d) {
				extend(append(slices.Clone(days), d))
			}
		}
	}
	for i, d := range stay {
		for _, j := range m.l[i].After {
			if d <= stay[j]+m.Dry {
				return nil
			}
		}
	}
	extend(stay)
	return out
}

// usual gives the days behind turns that stay their usual masters and pits.
func (m model) usual(stay []api.Turn, days []int) api.Plan {
	out := api.Plan{Turns: slices.Clone(stay)}
	for i := len(stay); i < len(days); i++ {
		x := api.Turn{Day: days[i], Pit: -1, Master: -1}
		for k := range m.Pits {
			used := 0
			for _, before := range out.Turns {
				if before.Pit == k {
					used++
				}
			}
			if x.Pit < 0 && m.Pits[k].Slaked+m.Pits[k].Age <= days[i] && used < m.Pits[k].Batches {
				x.Pit = k
			}
		}
		x.Master = slices.MinFunc(m.skilled(days[i], m.l[i].Need), func(a, b int) int {
			return cmp.Or(cmp.Compare(m.Masters[a].Skill, m.Masters[b].Skill), cmp.Compare(a, b))
		})
		out.Turns = append(out.Turns, x)
	}
	return out
}

// replan returns the plan that Replan has to return; false if there is none.
func (m model) replan(old api.Plan, done, from int) (api.Plan, bool) {
	stay := old.Turns[:done]
	all := m.lists(daysOf(api.Plan{Turns: stay}), from)
	if len(all) == 0 {
		return api.Plan{}, false
	}
	best := slices.MinFunc(all, func(a, b []int) int {
		return cmp.Or(cmp.Compare(last(a), last(b)), cmp.Compare(differing(old, done, a), differing(old, done, b)), slices.Compare(a, b))
	})
	return m.usual(stay, best), true
}

func last(days []int) int {
	if len(days) == 0 {
		return -1
	}
	return days[len(days)-1]
}

// differing returns how many of the days behind the first ones are not those of a plan.
func differing(old api.Plan, done int, days []int) int {
	count := 0
	for i := done; i < len(days); i++ {
		if i >= len(old.Turns) || old.Turns[i].Day != days[i] {
			count++
		}
	}
	return count
}
