package crew_test

import (
	"slices"
	"testing"

	"giornata/api"
	"giornata/crew"
)

// wide returns a yard of many days and masters, more than the model can list, tasks for it, and a day from which on most of them have a plan.
func (d *dice) wide() (api.Yard, []api.Task, int) {
	y := api.Yard{Dry: d.roll(31)}
	for i := range y.Seasons {
		y.Seasons[i] = api.Season{Light: 200 + d.roll(1000), Wet: 200 + d.roll(1000)}
	}
	begin := []int{0, d.roll(99000), 99700}[d.roll(3)]
	for day := begin; day < min(begin+500, 100001) && len(y.Closed) < 200; day++ {
		if d.roll(4) == 0 {
			y.Closed = append(y.Closed, day)
		}
	}
	for range 1 + d.roll(8) {
		y.Pits = append(y.Pits, api.Lime{Slaked: d.roll(begin + 1), Age: d.roll(100), Batches: 1 + d.roll(9)})
	}
	for range 2 + d.roll(11) {
		day := min(begin+d.roll(200), 100000)
		y.Masters = append(y.Masters, master("m", day, min(day+50+d.roll(300), 100001), 1+d.roll(9)))
	}
	l := d.tasks(d.roll(13))
	for i := range l {
		l[i].After = slices.DeleteFunc(l[i].After, func(int) bool { return d.roll(2) == 0 })
	}
	return y, l, begin
}

// planned yields wide yards and their earliest plans.
func planned(t *testing.T, seed uint64, count int, visit func(d *dice, y api.Yard, l []api.Task, from int, plan api.Plan)) {
	t.Helper()
	d := &dice{seed}
	found := 0
	for range count {
		y, l, from := d.wide()
		plan, e := crew.Earliest(y, l, from)
		if e == api.OK {
			found++
			visit(d, y, l, from, plan)
		}
	}
	want(t, "many have a plan", found > count/3, true)
}

// P7.2 (T6): what Earliest and Bounds return is accepted; with a greater bound than a day that is possible nothing is.
func TestEarliestIsAccepted(t *testing.T) {
	planned(t, 14, 400, func(d *dice, y api.Yard, l []api.Task, from int, plan api.Plan) {
		wants(t, "CheckPlan of Earliest", of(crew.CheckPlan(y, l, from, plan)), true, api.OK)
		bounds, e := crew.Bounds(y, l, from)
		wants(t, "Bounds", of(bounds, e), daysOf(plan), api.OK)
		wants(t, "CheckBounds of Bounds", of(crew.CheckBounds(y, l, from, bounds)), true, api.OK)
		for i := range bounds {
			bounds[i]++
			wants(t, "CheckBounds of a greater bound", of(crew.CheckBounds(y, l, from, bounds)), false, api.OK)
			bounds[i]--
		}
		for i, x := range plan.Turns {
			want(t, "a turn is usual", (model{y, l}).usual(plan.Turns[:i], daysOf(plan)[:i+1]).Turns[i], x)
		}
	})
}

// P7.3 (T6): Replan keeps what was done; it ends like Earliest if nothing was done; and it changes nothing if nothing has changed.
func TestReplanPromises(t *testing.T) {
	planned(t, 15, 250, func(d *dice, y api.Yard, l []api.Task, from int, plan api.Plan) {
		wants(t, "Replan with nothing changed", of(crew.Replan(y, l, plan, 0, from)), plan, api.OK)
		other := d.sketch(from, d.roll(14))
		now, e := crew.Replan(y, l, other, 0, from)
		wants(t, "the end if nothing was done", of(crew.End(now), e), crew.End(plan), api.OK)
		wants(t, "CheckPlan of Replan", of(crew.CheckPlan(y, l, from, now)), true, api.OK)
		if len(l) == 0 {
			return
		}
		done := d.roll(len(l)) + 1
		today := plan.Turns[done-1].Day + 1
		if today > 100000 {
			return
		}
		wants(t, "Replan on a later day with nothing changed", of(crew.Replan(y, l, plan, done, today)), plan, api.OK)
		closed := y
		if done < len(l) {
			closed, _ = crew.Close(y, plan.Turns[done].Day)
		}
		now, e = crew.Replan(closed, l, plan, done, today)
		if e != api.OK {
			wants(t, "Replan without a plan", of(now, e), api.Plan{}, api.ErrSpan)
			return
		}
		want(t, "what was done", now.Turns[:done], plan.Turns[:done])
		want(t, "Replan is kept", (model{closed, l}).isKept(now, today, done), true)
		again, e := crew.Replan(closed, l, now, done, today)
		wants(t, "Replan of Replan", of(again, e), now, api.OK)
	})
}

// later reports whether no task of a plan is earlier than in another one; without a plan all are later.
func later(now, before api.Plan, e api.Errno) bool {
	if e != api.OK {
		return e == api.ErrSpan
	}
	for i, x := range now.Turns {
		if x.Day < before.Turns[i].Day {
			return false
		}
	}
	return len(now.Turns) == len(before.Turns)
}

// P7.4: with less in a yard no task is earlier, and with less work none is later.
func TestDelays(t *testing.T) {
	planned(t, 16, 400, func(d *dice, y api.Yard, l []api.Task, from int, plan api.Plan) {
		worse := func(name string, change func(y *api.Yard)) {
			t.Helper()
			less := copyOf(y)
			change(&less)
			now, e := crew.Earliest(less, l, from)
			want(t, name+": no task is earlier", later(now, plan, e), true)
		}
		worse("a closed day", func(y *api.Yard) {
			if closed, e := crew.Close(*y, from+d.roll(60)); e == api.OK {
				*y = closed
			}
		})
		worse("less light", func(y *api.Yard) { y.Seasons[d.roll(12)].Light = d.roll(200) })
		worse("less time until it is dry", func(y *api.Yard) { y.Seasons[from%360/30].Wet /= 2 })
		worse("a greater Dry", func(y *api.Yard) { y.Dry = min(30, y.Dry+1+d.roll(4)) })
		worse("without a pit", func(y *api.Yard) { y.Pits = slices.Delete(y.Pits, 0, 1) })
		worse("without a master", func(y *api.Yard) { y.Masters = slices.Delete(y.Masters, 0, 1) })
		for i := range l {
			less := slices.Clone(l)
			less[i].Work = 1 + d.roll(less[i].Work)
			now, e := crew.Earliest(y, less, from)
			want(t, "less work: no task is later", e == api.OK && later(plan, now, e), true)
		}
	})
}

// P7.5: some plan ends as early with all tasks as late as their slack says, and the last one has none.
func TestSlackPromises(t *testing.T) {
	some := 0
	planned(t, 17, 400, func(d *dice, y api.Yard, l []api.Task, from int, plan api.Plan) {
		slack, e := crew.Slack(y, l, from)
		want(t, "the error of Slack", e, api.OK)
		days := daysOf(plan)
		for i := range days {
			days[i] += slack[i]
			if slack[i] > 0 {
				some++
			}
		}
		latest := (model{y, l}).usual(nil, days)
		wants(t, "CheckPlan of the latest days", of(crew.CheckPlan(y, l, from, latest)), true, api.OK)
		want(t, "the end of the latest days", crew.End(latest), crew.End(plan))
		if len(l) > 0 {
			want(t, "the slack of the last task", slack[len(l)-1], 0)
		}
	})
	want(t, "many have slack", some > 100, true)
}
