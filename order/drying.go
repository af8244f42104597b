package order

import (
	"slices"

	"giornata/api"
)

// Days returns the earliest days for an order.
func Days(o api.Order, dry int, l []int) ([]int, api.Errno) {
	g, e := openDryOrder(o, dry, l)
	if e != api.OK {
		return nil, e
	}
	return g.earliest(dry, l), api.OK
}

// CheckDays returns whether a list of days is kept.
func CheckDays(o api.Order, dry int, days []int) (bool, api.Errno) {
	g, e := openDry(o, dry)
	return e == api.OK && g.areKept(dry, days), e
}

// Reasons returns why the last patch of an order is laid no earlier, from it back to the first one.
func Reasons(o api.Order, dry int, l []int) ([]api.Reason, api.Errno) {
	g, e := openDryOrder(o, dry, l)
	if e != api.OK {
		return nil, e
	}
	days := g.earliest(dry, l)
	var reasons []api.Reason
	for i := len(l) - 1; i >= 0; {
		x := g.reason(dry, l[:i+1], days)
		reasons = append(reasons, x)
		i = slices.Index(l, x.From)
	}
	return reasons, api.OK
}

// Wait returns the first one of the orders whose earliest days end first, and its earliest days.
func Wait(o api.Order, dry int) (api.Schedule, api.Errno) {
	g, e := openDry(o, dry)
	if e != api.OK {
		return api.Schedule{}, e
	}
	if g.N > api.MaxWait {
		return api.Schedule{}, api.ErrLimit
	}
	if e := g.checkOrdered(); e != api.OK {
		return api.Schedule{}, e
	}
	return g.soonest(dry), api.OK
}

// soonest returns the first one of the orders whose earliest days end first, and its earliest days.
func (g graph) soonest(dry int) api.Schedule {
	var best api.Schedule
	least := api.MaxLast + 1
	for l := range g.orders {
		days := g.earliest(dry, l)
		last := lastDay(l, days)
		if last < least {
			best, least = api.Schedule{Order: slices.Clone(l), Days: days}, last
		}
		if least == g.N-1 {
			break
		}
	}
	return best
}

// earliest returns the earliest days for an order.
func (g graph) earliest(dry int, l []int) []int {
	days := make([]int, g.N)
	var laid set
	for i, p := range l {
		if i > 0 {
			days[p] = days[l[i-1]] + 1
		}
		for q := range (g.near[p] & laid).patches() {
			days[p] = max(days[p], days[q]+dry+1)
		}
		laid |= single(p)
	}
	return days
}

// lastDay returns the day of the last patch of an order, or -1 if there is no patch.
func lastDay(l, days []int) int {
	if len(l) == 0 {
		return -1
	}
	return days[l[len(l)-1]]
}

// areKept reports whether days are kept.
func (g graph) areKept(dry int, days []int) bool {
	if len(days) != g.N {
		return false
	}
	taken := map[int]bool{}
	for _, day := range days {
		if day < 0 || day > api.MaxLast || taken[day] {
			return false
		}
		taken[day] = true
	}
	tooEarly := func(x api.Pair) bool { return days[x.A] >= days[x.B] }
	tooNear := func(x api.Pair) bool { return max(days[x.A]-days[x.B], days[x.B]-days[x.A]) <= dry }
	return !slices.ContainsFunc(g.Arcs, tooEarly) && !slices.ContainsFunc(g.Near, tooNear)
}

// reason returns why the last patch of the beginning of an order is laid no earlier.
func (g graph) reason(dry int, l, days []int) api.Reason {
	p := l[len(l)-1]
	if days[p] == 0 {
		return api.Reason{Patch: p, From: -1, Kind: api.ReasonFirst}
	}
	for q := range g.near[p].patches() {
		if days[q]+dry+1 == days[p] {
			return api.Reason{Patch: p, From: q, Kind: api.ReasonNear}
		}
	}
	return api.Reason{Patch: p, From: l[len(l)-2], Kind: api.ReasonDay}
}
