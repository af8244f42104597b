package crew_test

import (
	"slices"
	"testing"

	"giornata/api"
	"giornata/crew"
)

// G9: the examples of the chapter.
func TestReplan(t *testing.T) {
	y, l := chapterYard(), chapterTasks()
	wants(t, "Replan from 5", of(crew.Replan(y, l, on(2, 4, 6), 1, 5)), plan(2, 0, 0, 5, 0, 0, 7, 1, 0), api.OK)
	closed, _ := crew.Close(y, 4)
	wants(t, "Replan with the day 4 closed", of(crew.Replan(closed, l, on(2, 4, 7), 1, 3)), plan(2, 0, 0, 5, 0, 0, 7, 1, 0), api.OK)
	wants(t, "Replan of nothing done", of(crew.Replan(y, l, on(2, 4, 6), 0, 0)), plan(2, 0, 0, 4, 0, 0, 6, 1, 0), api.OK)
	wants(t, "Replan of no plan", of(crew.Replan(y, l, on(), 0, 0)), plan(2, 0, 0, 4, 0, 0, 6, 1, 0), api.OK)
	wants(t, "Replan of no tasks", of(crew.Replan(y, nil, on(5, 3), 0, 7)), api.Plan{}, api.OK)
	wants(t, "Replan of all done", of(crew.Replan(y, l, plan(1, 7, 8, 3, 9, -1, 5, -4, huge), 3, 6)), plan(1, 7, 8, 3, 9, -1, 5, -4, huge), api.OK)
	wants(t, "Replan of all done, and more turns", of(crew.Replan(y, l, on(1, 3, 5, 4), 3, 6)), on(1, 3, 5), api.OK)
	wants(t, "Replan of all done, by a yard with nothing", of(crew.Replan(api.Yard{}, l, on(1, 3, 5), 3, 100000)), on(1, 3, 5), api.OK)
	wants(t, "Replan too late", of(crew.Replan(y, l, on(2, 4, 6), 1, 29)), api.Plan{}, api.ErrSpan)
	wants(t, "Replan of the last task", of(crew.Replan(y, l, on(2, 4, 6), 2, 29)), plan(2, 0, 0, 4, 0, 0, 29, 1, 0), api.OK)
}

// G9: of plans that end as early those that keep the most days, then the first one.
func TestReplanChangesLeast(t *testing.T) {
	y := brightYard()
	y.Dry = 9
	// The last task has to wait for the first one, so those between may be anywhere between.
	l := []api.Task{task(1, 1), task(1, 1), task(1, 1), task(1, 1), task(1, 1, 0)}
	for _, x := range []struct {
		name string
		old  api.Plan
		from int
		days []int
	}{
		{"a plan that can stay", on(0, 3, 5, 9, 10), 0, p(0, 3, 5, 9, 10)},
		{"a plan that ends later", on(0, 3, 5, 9, 12), 0, p(0, 3, 5, 9, 10)},
		{"a plan that begins later", on(1, 3, 5, 9, 11), 0, p(0, 3, 5, 9, 10)},
		{"days in an order of which three can stay", on(0, 8, 3, 5, 10), 0, p(0, 1, 3, 5, 10)},
		{"days of which the earlier ones are kept", on(0, 6, 5, 7, 10), 0, p(0, 1, 5, 7, 10)},
		{"days of which either one can stay", on(0, 7, 5, 8, 10), 0, p(0, 1, 5, 8, 10)},
		{"either of two days, of which the later one makes the plan earlier", on(0, 2, 2, 9, 10), 0, p(0, 1, 2, 9, 10)},
		{"days that leave no room", on(0, 9, 9, 9, 10), 0, p(0, 1, 2, 9, 10)},
		{"a day too late for those behind it", on(0, 8, 2, 3, 10), 0, p(0, 1, 2, 3, 10)},
		{"too few days", on(0, 5), 0, p(0, 5, 6, 7, 10)},
		{"days that are all too early", on(0, 1, 2, 3, 4), 5, p(5, 6, 7, 8, 15)},
		{"one day that is late enough", on(0, 1, 2, 12, 13), 5, p(5, 6, 7, 12, 15)},
		{"any days", on(tiny, huge, tiny, huge, huge), 5, p(5, 6, 7, 8, 15)},
	} {
		wants(t, "Replan of "+x.name, of(crew.Replan(y, l, x.old, 0, x.from)), on(x.days...), api.OK)
	}
}

// G9: what was done stays as it is, whatever it was, and uses up its batches.
func TestReplanKeepsWhatWasDone(t *testing.T) {
	y := brightYard()
	y.Pits, y.Closed = pits(0, 0, 1, 0, 0, 2, 0, 9, 5), p(1, 2)
	l := []api.Task{task(1, 1), task(1, 9), task(1, 1)}
	for _, x := range []struct {
		name string
		old  api.Plan
		done int
		from int
		want api.Plan
		e    api.Errno
	}{
		{"a closed day", plan(1, 0, 0), 1, 3, plan(1, 0, 0, 3, 1, 0, 4, 1, 0), api.OK},
		{"another pit", plan(1, 1, 0), 1, 3, plan(1, 1, 0, 3, 0, 0, 4, 1, 0), api.OK},
		{"a pit that was not aged", plan(1, 2, 0), 1, 3, plan(1, 2, 0, 3, 0, 0, 4, 1, 0), api.OK},
		{"no pit", plan(1, 3, 0), 1, 3, plan(1, 3, 0, 3, 0, 0, 4, 1, 0), api.OK},
		{"a pit behind all that may be", plan(1, 8, 0), 1, 3, plan(1, 8, 0, 3, 0, 0, 4, 1, 0), api.OK},
		{"a pit below 0", plan(1, -1, 0), 1, 3, plan(1, -1, 0, 3, 0, 0, 4, 1, 0), api.OK},
		{"any pit", plan(1, huge, 0, 2, tiny, 0), 2, 3, plan(1, huge, 0, 2, tiny, 0, 3, 0, 0), api.OK},
		{"a pit used too often", plan(1, 0, 0, 2, 0, 0), 2, 3, plan(1, 0, 0, 2, 0, 0, 3, 1, 0), api.OK},
		{"no master", plan(1, 0, 7), 1, 3, plan(1, 0, 7, 3, 1, 0, 4, 1, 0), api.OK},
		{"any master", plan(1, 0, tiny), 1, 3, plan(1, 0, tiny, 3, 1, 0, 4, 1, 0), api.OK},
		{"a day long ago", plan(0, 0, 0), 1, 50000, plan(0, 0, 0, 50000, 1, 0, 50001, 1, 0), api.OK},
		{"the day before", plan(4, 0, 0), 1, 5, plan(4, 0, 0, 5, 1, 0, 6, 1, 0), api.OK},
		{"the first days", plan(0, 0, 0, 1, 1, 0), 2, 2, plan(0, 0, 0, 1, 1, 0, 3, 1, 0), api.OK},
		{"the last day", plan(99998, 0, 0, 99999, 1, 0), 2, 100000, plan(99998, 0, 0, 99999, 1, 0, 100000, 1, 0), api.OK},
		{"too late for two", plan(99998, 0, 0), 1, 100000, api.Plan{}, api.ErrSpan},
	} {
		wants(t, "Replan after "+x.name, of(crew.Replan(y, l, x.old, x.done, x.from)), x.want, x.e)
	}
	y.Closed, y.Dry = nil, 4
	wants(t, "Replan with drying", of(crew.Replan(y, []api.Task{task(1, 1), task(1, 1, 0), task(1, 1)}, plan(2, 0, 0), 1, 3)), plan(2, 0, 0, 7, 1, 0, 8, 1, 0), api.OK)
	wants(t, "Replan when it has dried", of(crew.Replan(y, []api.Task{task(1, 1), task(1, 1, 0), task(1, 1)}, plan(2, 0, 0), 1, 9)), plan(2, 0, 0, 9, 1, 0, 10, 1, 0), api.OK)
}

// G9: turns that stay have to have dried, too; nothing but what the paragraph lists is left out for them.
func TestReplanOfWhatHasNotDried(t *testing.T) {
	y := brightYard()
	y.Dry = 3
	for _, l := range [][]api.Task{{task(1, 1), task(1, 1, 0), task(1, 1)}, {task(1, 1), task(1, 1, 0)}} {
		wants(t, "Replan of what has not dried", of(crew.Replan(y, l, on(2, 5), 2, 9)), api.Plan{}, api.ErrSpan)
		got, e := crew.Replan(y, l, on(2, 6), 2, 9)
		wants(t, "Replan of what has just dried", of(daysOf(got), e), p(2, 6, 9)[:len(l)], api.OK)
		got, e = crew.Replan(y, l, on(2, 5), 1, 5)
		wants(t, "Replan of what was not done", of(daysOf(got), e), p(2, 6, 7)[:len(l)], api.OK)
	}
}

// G9: the span of 400 days.
func TestReplanSpan(t *testing.T) {
	y := brightYard()
	y.Masters[0].From = 500
	wants(t, "Replan at the end of the span", of(crew.Replan(y, row(2), on(3), 1, 101)), on(3, 500), api.OK)
	wants(t, "Replan behind the span", of(crew.Replan(y, row(2), on(3), 1, 100)), api.Plan{}, api.ErrSpan)
	wants(t, "Replan with an old day behind the span", of(crew.Replan(y, row(2), on(3, 501), 1, 101)), on(3, 500), api.OK)
}

// G9: the errors of Replan, in their order.
func TestReplanErrors(t *testing.T) {
	y, l := chapterYard(), chapterTasks()
	for _, x := range []struct {
		name       string
		old        api.Plan
		done, from int
		e          api.Errno
	}{
		{"done below 0", on(2, 4, 6), -1, 5, api.ErrArg},
		{"done of more than the tasks", on(2, 4, 6, 8), 4, 9, api.ErrArg},
		{"done of more than the turns", on(2), 2, 5, api.ErrArg},
		{"any done", on(2, 4, 6), huge, 5, api.ErrArg},
		{"the least done", on(2, 4, 6), tiny, 5, api.ErrArg},
		{"from below 0", on(2, 4, 6), 0, -1, api.ErrArg},
		{"from behind the last day", on(2, 4, 6), 1, 100001, api.ErrArg},
		{"from any day", on(2, 4, 6), 1, huge, api.ErrArg},
		{"from behind the last day, and days that descend", on(4, 2, 6), 2, 100001, api.ErrArg},
		{"days that descend", on(4, 2, 6), 2, 5, api.ErrState},
		{"a day twice", on(4, 4, 6), 2, 5, api.ErrState},
		{"a day below 0", on(-1, 4, 6), 1, 5, api.ErrState},
		{"the least day", on(tiny, 4, 6), 1, 5, api.ErrState},
		{"a day that is from", on(2, 5, 6), 2, 5, api.ErrState},
		{"a day behind from", on(2, 9, 6), 2, 5, api.ErrState},
		{"the greatest day", on(2, huge, 6), 2, 5, api.ErrState},
		{"a day that is from, of all done", on(2, 4, 6), 3, 6, api.ErrState},
		{"days that descend, and no plan", on(4, 2, 6), 2, 40, api.ErrState},
		{"no plan", on(2, 4, 6), 2, 40, api.ErrSpan},
		{"days that descend behind what was done", on(2, 1, 0), 1, 40, api.ErrSpan},
	} {
		wants(t, "Replan with "+x.name, of(crew.Replan(y, l, x.old, x.done, x.from)), api.Plan{}, x.e)
	}
	wants(t, "Replan of nothing from no day", of(crew.Replan(y, nil, on(), 0, -1)), api.Plan{}, api.ErrArg)
	wants(t, "Replan of nothing with a turn done", of(crew.Replan(y, nil, on(2), 1, 5)), api.Plan{}, api.ErrArg)
}

// G9, P7.3: Replan, compared with all plans of small yards.
func TestReplanOfAll(t *testing.T) {
	d := &dice{10}
	planned, kept := 0, 0
	for range 4000 {
		begin := offsets[d.roll(len(offsets))]
		m := model{d.yard(begin), d.tasks(d.roll(6))}
		from := min(begin+d.roll(6), 100000)
		old := d.sketch(begin-1+d.roll(3), d.roll(7))
		if all := m.lists(nil, begin); len(all) > 0 && d.roll(4) > 0 {
			old = m.usual(nil, all[d.roll(len(all))])
			m.Closed = slices.DeleteFunc(m.Closed, func(int) bool { return d.roll(3) == 0 })
			m.Dry = max(0, m.Dry-d.roll(2))
		}
		done := 0
		for done < min(len(old.Turns), len(m.l)) && old.Turns[done].Day < from {
			done++
		}
		if done > 0 && d.roll(4) == 0 {
			done--
		}
		if done > 0 && old.Turns[0].Day < 0 {
			continue
		}
		wanted, is := m.replan(old, done, from)
		if !is {
			wants(t, "Replan without a plan", of(crew.Replan(m.Yard, m.l, old, done, from)), api.Plan{}, api.ErrSpan)
			continue
		}
		planned++
		want(t, "the model is kept", m.isKept(wanted, from, done), true)
		wants(t, "Replan", of(crew.Replan(m.Yard, m.l, old, done, from)), wanted, api.OK)
		if count := differing(old, done, daysOf(wanted)); count > 0 && count < len(m.l)-done {
			kept++
		}
	}
	want(t, "many have a plan, and some keep some days", planned > 600 && planned < 3500 && kept > 100, true)
}

// G9: twelve tasks, of which any may keep its day.
func TestReplanOfTwelve(t *testing.T) {
	y, l := brightYard(), row(12)
	y.Dry = 30
	l[11].After = p(0)
	old := on(0, 3, 4, 5, 6, 7, 8, 9, 10, 11, 12, 31)
	wants(t, "Replan of twelve", of(crew.Replan(y, l, old, 0, 0)), old, api.OK)
	gaps := on(0, 1, 2, 3, 4, 5, 6, 7, 10, 13, 16, 31)
	wants(t, "Replan of twelve with gaps", of(crew.Replan(y, l, gaps, 0, 0)), gaps, api.OK)
	// The task 5 has room before it, when those from 1 on are earlier: five tasks change, and six would if those behind it were later.
	y.Closed = p(7)
	wants(t, "Replan of twelve with a closed day", of(crew.Replan(y, l, old, 0, 0)), on(0, 1, 2, 3, 4, 5, 8, 9, 10, 11, 12, 31), api.OK)
	wants(t, "Replan of twelve of which two were done", of(crew.Replan(y, l, old, 2, 4)), on(0, 3, 4, 5, 6, 8, 9, 10, 11, 12, 13, 31), api.OK)
	wants(t, "Replan of twelve from an earlier day", of(crew.Replan(y, row(12), on(from(20, 12)...), 0, 8)), on(from(8, 12)...), api.OK)
}

// G9: which tasks change.
func TestChanged(t *testing.T) {
	for _, x := range []struct {
		old, now api.Plan
		want     []int
	}{
		{on(), on(), nil},
		{on(2, 4, 6), on(2, 4, 6), nil},
		{on(2, 4, 6), on(2, 5, 7), p(1, 2)},
		{on(2, 4, 6), on(3, 4, 6), p(0)},
		{on(2, 4), on(2, 4, 6, 8), p(2, 3)},
		{on(2, 4, 6), on(1), p(0, 1, 2)},
		{on(2, 4, 6), on(), p(0, 1, 2)},
		{on(), on(tiny), p(0)},
		{plan(2, 0, 0, 4, 1, 1), plan(2, 5, 0, 4, 1, 3), nil},
		{on(tiny, huge), on(tiny, tiny), p(1)},
		{on(9, 3), on(3, 9), p(0, 1)},
		{on(make([]int, 30)...), on(from(0, 30)...), from(1, 29)},
	} {
		want(t, "Changed", crew.Changed(x.old, x.now), x.want)
		want(t, "Changed the other way round", crew.Changed(x.now, x.old), x.want)
	}
}
