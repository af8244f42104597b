package crew_test

import (
	"slices"
	"testing"

	"giornata/api"
	"giornata/crew"
)

// G5: the examples of the chapter, and plans of no tasks.
func TestEarliest(t *testing.T) {
	y, l := chapterYard(), chapterTasks()
	wants(t, "Earliest", of(crew.Earliest(y, l, 0)), plan(2, 0, 0, 4, 0, 0, 6, 1, 0), api.OK)
	wants(t, "Earliest from 4", of(crew.Earliest(y, l, 4)), plan(4, 0, 0, 5, 0, 0, 7, 1, 0), api.OK)
	wants(t, "Earliest from 28", of(crew.Earliest(y, l, 28)), api.Plan{}, api.ErrSpan)
	wants(t, "Earliest from 26", of(crew.Earliest(y, l, 26)), plan(26, 0, 0, 27, 0, 0, 29, 1, 0), api.OK)
	closed, _ := crew.Close(y, 2)
	wants(t, "Earliest with the day 2 closed", of(crew.Earliest(closed, l, 0)), plan(4, 0, 0, 5, 0, 0, 7, 1, 0), api.OK)
	for _, day := range p(0, 5, 100000) {
		wants(t, "Earliest of no tasks", of(crew.Earliest(api.Yard{}, nil, day)), api.Plan{}, api.OK)
	}
	for _, day := range p(-1, 100001, huge, tiny) {
		wants(t, "Earliest from no day", of(crew.Earliest(y, l, day)), api.Plan{}, api.ErrArg)
		wants(t, "Earliest of no tasks from no day", of(crew.Earliest(y, nil, day)), api.Plan{}, api.ErrArg)
	}
}

// G5: the span of 400 days, and the last day of all.
func TestSpan(t *testing.T) {
	late := func(day int) api.Yard {
		y := brightYard()
		y.Pits[0] = api.Lime{Slaked: day, Batches: 100}
		return y
	}
	for _, x := range []struct {
		y    api.Yard
		l    []api.Task
		from int
		want api.Plan
		e    api.Errno
	}{
		{late(399), row(1), 0, on(399), api.OK},
		{late(400), row(1), 0, api.Plan{}, api.ErrSpan},
		{late(400), row(1), 1, on(400), api.OK},
		{late(398), row(2), 0, on(398, 399), api.OK},
		{late(399), row(2), 0, api.Plan{}, api.ErrSpan},
		{late(100000), row(1), 99601, on(100000), api.OK},
		{late(100000), row(1), 99600, api.Plan{}, api.ErrSpan},
		{late(0), row(1), 100000, on(100000), api.OK},
		{late(0), row(2), 100000, api.Plan{}, api.ErrSpan},
		{late(0), row(3), 99998, on(99998, 99999, 100000), api.OK},
		{late(0), row(3), 99999, api.Plan{}, api.ErrSpan},
	} {
		wants(t, "Earliest", of(crew.Earliest(x.y, x.l, x.from)), x.want, x.e)
		wants(t, "Bounds", of(crew.Bounds(x.y, x.l, x.from)), daysOf(x.want), x.e)
		if x.e != api.OK {
			wants(t, "Slack", of(crew.Slack(x.y, x.l, x.from)), nil, x.e)
		}
	}
	y := brightYard()
	y.Dry = 30
	chained := []api.Task{task(1, 1), task(1, 1, 0), task(1, 1, 1), task(1, 1, 2), task(1, 1, 0)}
	wants(t, "Earliest with much drying", of(crew.Earliest(y, chained, 0)), on(0, 31, 62, 93, 94), api.OK)
}

// G5: usual masters and pits.
func TestUsualTurns(t *testing.T) {
	y := brightYard()
	y.Masters = []api.Master{master("ann", 0, 9, 9), master("bob", 0, 9, 4), master("cat", 1, 9, 4), master("dan", 2, 9, 3)}
	y.Pits = pits(0, 3, 2, 0, 0, 1, 0, 1, 2)
	wants(t, "the least skill that is enough", of(crew.Earliest(y, []api.Task{task(1, 5), task(1, 4), task(1, 1), task(1, 3), task(1, 3)}, 0)), plan(0, 1, 0, 1, 2, 1, 2, 2, 3, 3, 0, 3, 4, 0, 3), api.OK)
	y.Masters = append(y.Masters, master("eve", 4, 5, 3), master("fay", 4, 5, 1))
	wants(t, "masters who came later", of(crew.Earliest(y, []api.Task{task(1, 2), task(1, 1)}, 3)), plan(3, 0, 3, 4, 0, 5), api.OK)
	y.Pits = pits(0, 2, 9, 0, 0, 1, 0, 1, 1)
	wants(t, "pits that are not aged", of(crew.Earliest(y, []api.Task{task(1, 9), task(1, 9), task(1, 9), task(1, 9)}, 0)), plan(0, 1, 0, 1, 2, 0, 2, 0, 0, 3, 0, 0), api.OK)
	y.Pits = pits(0, 0, 1, 0, 0, 1, 0, 0, 2)
	wants(t, "pits that are used up", of(crew.Earliest(y, []api.Task{task(1, 9), task(1, 9), task(1, 9), task(1, 9)}, 0)), plan(0, 0, 0, 1, 1, 0, 2, 2, 0, 3, 2, 0), api.OK)
	wants(t, "too few batches", of(crew.Earliest(y, []api.Task{task(1, 9), task(1, 9), task(1, 9), task(1, 9), task(1, 9)}, 0)), api.Plan{}, api.ErrSpan)
}

// G6: plans that are not kept.
func TestCheckPlan(t *testing.T) {
	y, l := chapterYard(), chapterTasks()
	for _, x := range []struct {
		name string
		from int
		p    api.Plan
		want bool
	}{
		{"the earliest plan", 0, plan(2, 0, 0, 4, 0, 0, 6, 1, 0), true},
		{"the same from its first day", 2, plan(2, 0, 0, 4, 0, 0, 6, 1, 0), true},
		{"the same from the next day", 3, plan(2, 0, 0, 4, 0, 0, 6, 1, 0), false},
		{"a later plan", 0, plan(5, 1, 0, 6, 1, 0, 8, 1, 0), true},
		{"other pits", 0, plan(5, 1, 0, 6, 0, 0, 8, 0, 0), true},
		{"a plan that could be earlier", 0, plan(2, 0, 0, 9, 1, 0, 29, 1, 0), true},
		{"too few turns", 0, plan(2, 0, 0, 4, 0, 0), false},
		{"too many turns", 0, plan(2, 0, 0, 4, 0, 0, 6, 1, 0, 7, 1, 0), false},
		{"no turns", 0, api.Plan{}, false},
		{"a day that does not suit", 0, plan(3, 0, 0, 4, 0, 0, 6, 1, 0), false},
		{"a day twice", 0, plan(4, 0, 0, 4, 0, 0, 6, 1, 0), false},
		{"days that descend", 0, plan(5, 0, 0, 4, 0, 0, 7, 1, 0), false},
		{"plaster that has not dried", 0, plan(4, 0, 0, 5, 0, 0, 6, 1, 0), false},
		{"a day without light", 0, plan(2, 0, 0, 4, 0, 0, 30, 1, 0), false},
		{"no master", 0, plan(2, 0, 0, 4, 0, 1, 6, 1, 0), false},
		{"a master below 0", 0, plan(2, 0, -1, 4, 0, 0, 6, 1, 0), false},
		{"any master", 0, plan(2, 0, huge, 4, 0, tiny, 6, 1, 0), false},
		{"no pit", 0, plan(2, 0, 0, 4, 0, 0, 6, 2, 0), false},
		{"a pit behind all pits", 0, plan(2, 0, 0, 4, 0, 0, 6, 8, 0), false},
		{"a pit below 0", 0, plan(2, -1, 0, 4, 0, 0, 6, 1, 0), false},
		{"any pit", 0, plan(2, huge, 0, 4, tiny, 0, 6, 1, 0), false},
		{"a pit that is not aged", 0, plan(2, 1, 0, 4, 0, 0, 6, 1, 0), false},
		{"a pit that is used up", 0, plan(2, 0, 0, 4, 0, 0, 6, 0, 0), false},
		{"any days", 0, plan(tiny, 0, 0, 0, 0, 0, huge, 1, 0), false},
		{"the greatest days", 0, plan(huge, 0, 0, huge, 0, 0, huge, 1, 0), false},
	} {
		wants(t, "CheckPlan of "+x.name, of(crew.CheckPlan(y, l, x.from, x.p)), x.want, api.OK)
	}
	for _, day := range p(-1, 100001, huge, tiny) {
		wants(t, "CheckPlan from no day", of(crew.CheckPlan(y, l, day, on(2, 4, 6))), false, api.ErrArg)
		wants(t, "CheckPlan of nothing from no day", of(crew.CheckPlan(y, nil, day, on())), false, api.ErrArg)
	}
	wants(t, "CheckPlan of nothing", of(crew.CheckPlan(api.Yard{}, nil, 5, on())), true, api.OK)
	bright := brightYard()
	wants(t, "CheckPlan of the last day of the span", of(crew.CheckPlan(bright, row(1), 7, on(406))), true, api.OK)
	wants(t, "CheckPlan of the day behind the span", of(crew.CheckPlan(bright, row(1), 7, on(407))), false, api.OK)
	wants(t, "CheckPlan of the last day of all", of(crew.CheckPlan(bright, row(1), 100000, on(100000))), true, api.OK)
	wants(t, "CheckPlan of the day behind the last one", of(crew.CheckPlan(bright, row(1), 100000, on(100001))), false, api.OK)
	bright.Masters = append(bright.Masters, master("bob", 3, 5, 2), master("cat", 0, 100001, 1))
	for _, x := range []struct {
		day, master int
		want        bool
	}{{2, 0, true}, {2, 1, false}, {3, 1, true}, {4, 1, true}, {5, 1, false}, {4, 2, false}} {
		wants(t, "CheckPlan of a master who is there", of(crew.CheckPlan(bright, []api.Task{task(1, 2)}, 0, plan(x.day, 0, x.master))), x.want, api.OK)
	}
}

// G6: plans that were changed in one place, by the words of the chapter.
func TestCheckAnyPlan(t *testing.T) {
	d := &dice{7}
	kept, broken := 0, 0
	for range 3000 {
		begin := offsets[d.roll(len(offsets))]
		m := model{d.yard(begin), d.tasks(d.roll(4))}
		plan, e := crew.Earliest(m.Yard, m.l, begin)
		if e != api.OK {
			plan = d.sketch(begin, len(m.l))
		}
		for range d.roll(3) {
			if len(plan.Turns) == 0 {
				break
			}
			x := &plan.Turns[d.roll(len(plan.Turns))]
			switch d.roll(4) {
			case 0:
				x.Day += d.roll(5) - 2
			case 1:
				x.Pit = d.roll(5) - 1
			case 2:
				x.Master = d.roll(5) - 1
			}
		}
		is := m.isKept(plan, begin, 0)
		wants(t, "CheckPlan", of(crew.CheckPlan(m.Yard, m.l, begin, plan)), is, api.OK)
		if is {
			kept++
		} else {
			broken++
		}
	}
	want(t, "many are kept, and many are not", kept > 500 && broken > 500, true)
}

// G6: the end of any plan.
func TestEnd(t *testing.T) {
	for _, x := range []struct {
		p    api.Plan
		want int
	}{{on(), -1}, {on(5), 5}, {on(9, 3), 3}, {on(2, 4, 6), 6}, {on(0), 0}, {on(5, tiny), tiny}, {on(huge), huge}, {on(make([]int, 50)...), 0}} {
		want(t, "End", crew.End(x.p), x.want)
	}
}

// G7: bounds that show something, and bounds that do not.
func TestCheckBounds(t *testing.T) {
	y, l := chapterYard(), chapterTasks()
	for _, x := range []struct {
		from   int
		bounds []int
		want   bool
	}{
		{0, p(2, 4, 6), true}, {0, p(2, 3, 5), true}, {0, p(2, 3, 6), false}, {0, p(0, 0, 0), true}, {0, p(2, 4, 7), false}, {0, p(2, 5, 6), false}, {0, p(3, 4, 6), false}, {2, p(2, 4, 6), true}, {3, p(4, 4, 6), true}, {3, p(4, 5, 7), true},
		{0, p(1, 2, 5), true}, {0, p(0, 2, 5), true}, {0, p(0, 3, 5), false}, {0, p(tiny, 2, 5), true}, {0, p(tiny, tiny, 5), true}, {0, p(tiny, tiny, tiny), true}, {0, p(tiny, tiny, 6), false}, {0, p(2, 4), false}, {0, p(2, 4, 6, 0), false}, {0, nil, false},
		{0, p(2, 4, 400), false}, {0, p(huge, huge, huge), false}, {30, p(400, 420, 430), true}, {30, p(430, 430, 430), true}, {30, p(431, 500, huge), true}, {30, p(huge, huge, huge), true}, {30, p(huge, 0, 0), true}, {30, p(0, 0, huge), true}, {28, p(28, 29, huge), true}, {28, p(28, huge, huge), false},
	} {
		wants(t, "CheckBounds", of(crew.CheckBounds(y, l, x.from, x.bounds)), x.want, api.OK)
	}
	for _, day := range p(-1, 100001, huge, tiny) {
		wants(t, "CheckBounds from no day", of(crew.CheckBounds(y, l, day, p(2, 4, 6))), false, api.ErrArg)
		wants(t, "CheckBounds of nothing from no day", of(crew.CheckBounds(y, nil, day, nil)), false, api.ErrArg)
	}
	wants(t, "CheckBounds of nothing", of(crew.CheckBounds(y, nil, 0, nil)), true, api.OK)
	// In a bright yard, later than its first day, a bound within the span would be wrong; one behind the span counts like the end of the span.
	bright := brightYard()
	bright.Pits[0].Slaked = 410
	wants(t, "CheckBounds of a bound behind the span", of(crew.CheckBounds(bright, row(1), 10, p(500))), true, api.OK)
	wants(t, "CheckBounds of a day of the span", of(crew.CheckBounds(bright, row(1), 11, p(411))), false, api.OK)
	wants(t, "CheckBounds of the first day that suits", of(crew.CheckBounds(bright, row(1), 11, p(410))), true, api.OK)
	dark := brightYard()
	dark.Masters[0].Until = 403
	wants(t, "a task behind a bound behind the span", of(crew.CheckBounds(dark, row(2), 1, p(401, 402))), false, api.OK)
	dark.Masters[0].From = 401
	wants(t, "a bound that counts less", of(crew.CheckBounds(dark, row(2), 1, p(402, huge))), true, api.OK)
	wants(t, "a bound that a day within the span belies", of(crew.CheckBounds(dark, row(2), 2, p(402, huge))), false, api.OK)
}

// checksBounds spells out when bounds show something.
func (m model) checksBounds(from int, bounds []int) bool {
	if len(bounds) != len(m.l) {
		return false
	}
	bound := func(i int) int { return min(bounds[i], from+400) }
	for i := range m.l {
		for d := from; d < bound(i); d++ {
			counts := m.suits(i, d) && (i == 0 || d > bound(i-1))
			for _, j := range m.l[i].After {
				counts = counts && d > bound(j)+m.Dry
			}
			if counts {
				return false
			}
		}
	}
	return true
}

// G7, P7.2: what CheckBounds accepts is as the chapter says, and no plan has a task before such a bound.
func TestAnyBounds(t *testing.T) {
	d := &dice{8}
	accepted, refused := 0, 0
	for range 3000 {
		begin := offsets[d.roll(len(offsets))]
		m := model{d.yard(begin), d.tasks(d.roll(4))}
		all := m.lists(nil, begin)
		bounds, e := crew.Bounds(m.Yard, m.l, begin)
		if e == api.OK {
			wants(t, "CheckBounds of Bounds", of(crew.CheckBounds(m.Yard, m.l, begin, bounds)), true, api.OK)
		} else {
			bounds = daysOf(d.sketch(begin, len(m.l)))
		}
		for range d.roll(3) {
			if len(bounds) > 0 {
				bounds[d.roll(len(bounds))] += []int{-3, -1, 1, 2, 500}[d.roll(5)]
			}
		}
		is := m.checksBounds(begin, bounds)
		wants(t, "CheckBounds", of(crew.CheckBounds(m.Yard, m.l, begin, bounds)), is, api.OK)
		if !is {
			refused++
			continue
		}
		accepted++
		for _, days := range all {
			for i, day := range days {
				want(t, "a plan with a task before its bound", day < bounds[i], false)
			}
		}
	}
	want(t, "many are accepted, and many are not", accepted > 400 && refused > 400, true)
}

// G8: how much later tasks can be.
func TestSlack(t *testing.T) {
	y, l := chapterYard(), chapterTasks()
	wants(t, "Slack", of(crew.Slack(y, l, 0)), p(0, 0, 0), api.OK)
	wants(t, "Slack of no tasks", of(crew.Slack(y, nil, 0)), nil, api.OK)
	wants(t, "Slack from no day", of(crew.Slack(y, l, -1)), nil, api.ErrArg)
	wants(t, "Slack from behind the last day", of(crew.Slack(y, l, 100001)), nil, api.ErrArg)
	bright := brightYard()
	bright.Dry = 5
	wants(t, "Slack of a row", of(crew.Slack(bright, row(4), 0)), p(0, 0, 0, 0), api.OK)
	// The days are 0 1 2 6: the last one has to wait for the first one.
	wants(t, "Slack before drying", of(crew.Slack(bright, []api.Task{task(1, 1), task(1, 1), task(1, 1), task(1, 1, 0)}, 0)), p(0, 3, 3, 0), api.OK)
	bright.Closed = p(4)
	wants(t, "Slack with a closed day", of(crew.Slack(bright, []api.Task{task(1, 1), task(1, 1), task(1, 1), task(1, 1, 0)}, 0)), p(0, 2, 3, 0), api.OK)
	// The days are 0 1 7 13: 2 and 3 have to wait for 1.
	bright.Closed = nil
	wants(t, "Slack before two", of(crew.Slack(bright, []api.Task{task(1, 1), task(1, 1), task(1, 1, 1), task(1, 1, 2)}, 3)), p(0, 0, 0, 0), api.OK)
	wants(t, "Slack of one task", of(crew.Slack(bright, row(1), 8)), p(0), api.OK)
}

// G5, G7, G8, P7.2, P7.5: earliest days and slack, compared with all plans of small yards.
func TestEarliestOfAll(t *testing.T) {
	d := &dice{9}
	planned, slacks := 0, 0
	for range 4000 {
		begin := offsets[d.roll(len(offsets))]
		m := model{d.yard(begin), d.tasks(d.roll(6))}
		from := min(begin+d.roll(6), 100000)
		all := m.lists(nil, from)
		if len(all) == 0 {
			wants(t, "Earliest without a plan", of(crew.Earliest(m.Yard, m.l, from)), api.Plan{}, api.ErrSpan)
			wants(t, "Bounds without a plan", of(crew.Bounds(m.Yard, m.l, from)), nil, api.ErrSpan)
			wants(t, "Slack without a plan", of(crew.Slack(m.Yard, m.l, from)), nil, api.ErrSpan)
			continue
		}
		planned++
		least, most := slices.Clone(all[0]), make([]int, len(m.l))
		for _, days := range all {
			for i, day := range days {
				least[i] = min(least[i], day)
			}
		}
		for _, days := range all {
			for i, day := range days {
				if last(days) == last(least) {
					most[i] = max(most[i], day-least[i])
				}
			}
		}
		plan := m.usual(nil, least)
		want(t, "the model is kept", m.isKept(plan, from, 0), true)
		wants(t, "Earliest", of(crew.Earliest(m.Yard, m.l, from)), plan, api.OK)
		wants(t, "CheckPlan of Earliest", of(crew.CheckPlan(m.Yard, m.l, from, plan)), true, api.OK)
		wants(t, "Bounds", of(crew.Bounds(m.Yard, m.l, from)), least, api.OK)
		wants(t, "Slack", of(crew.Slack(m.Yard, m.l, from)), most, api.OK)
		if slices.ContainsFunc(most, func(n int) bool { return n > 0 }) {
			slacks++
		}
	}
	want(t, "many have a plan, and some have slack", planned > 1000 && planned < 3500 && slacks > 60, true)
}
