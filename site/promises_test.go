package site_test

import (
	"slices"
	"strings"
	"testing"

	"giornata/api"
	"giornata/cartoon"
	"giornata/crew"
	"giornata/days"
	"giornata/keep"
	"giornata/pigment"
	"giornata/site"
)

// upright wants all that T10 says of the pages of a site, by other ways than Check.
func upright(t *testing.T, s *site.Site) {
	t.Helper()
	l, a := s.Pages(), s.Account()
	for i, p := range l {
		before := site.Told(l[:i])
		switch {
		case p.Kind == api.DosStroke:
			x, _ := site.GetStroke(p.Body)
			state := pigment.State(before.Book, x.Day, x.Colour)
			want(t, "a stroke by the rules of its day", state == api.PigFresh || state == api.PigDry && !x.Wet, true)
		case p.Kind == api.DosPlan && before.Has&api.HasWork == 0:
			w, _ := site.GetWork(p.Body)
			tasks, e := crew.Tasks(before.Sheet, before.Division, w.Order, 1)
			want(t, "the error of Tasks", e, api.OK)
			var bounds []int
			for _, x := range w.Plan.Turns {
				bounds = append(bounds, x.Day)
			}
			wants(t, "no plan is earlier", of(crew.CheckBounds(before.Yard, tasks, p.Day, bounds)), true, api.OK)
		}
	}
	if a.Has&api.HasDivision == 0 {
		return
	}
	_, table, e := days.Least(a.Sheet, a.Limits)
	want(t, "the error of Least", e, api.OK)
	wants(t, "no division costs less", of(days.CheckLeast(a.Sheet, a.Limits, a.Division, table)), true, api.OK)
	along, e := cartoon.Along(a.Cartoon, a.Division.Patches)
	want(t, "the error of Along", e, api.OK)
	wants(t, "seams along lines along which none may run", of(cartoon.Crossed(a.Cartoon, along)), []string(nil), api.OK)
}

// P10.2 (T10): at every moment nothing is wrong with the pages; commands with an error leave them as they are.
func TestNothingIsWrong(t *testing.T) {
	written := map[uint8]int{}
	for seed := range uint64(60) {
		d := &dice{1000 + seed}
		s := newSite(t, 3)
		for _, c := range d.random(3, 80) {
			before := s.Pages()
			answer := c.answer(s)
			after := s.Pages()
			if len(after) == len(before) {
				want(t, "the pages", after, before)
				continue
			}
			want(t, "the pages before", after[:len(before)], before)
			want(t, "a command with an error that writes", strings.HasPrefix(answer, "error"), false)
			want(t, "how many pages are written", len(after), len(before)+1)
			written[after[len(before)].Kind]++
			audited(t, s)
		}
		upright(t, s)
	}
	for kind := api.DosCartoon; kind <= api.DosAct; kind++ {
		if written[kind] < 10 {
			t.Errorf("%d pages of the kind %d are written", written[kind], kind)
		}
	}
}

// relinked returns pages with other Bodies, linked anew.
func relinked(t *testing.T, l []api.Page, body func(i int, p api.Page) string) []api.Page {
	t.Helper()
	f := folder{t: t}
	for i, p := range l {
		f = f.with(p.Day, p.Kind, body(i, p))
	}
	return f.pages
}

// P10.3 (T9): nothing is wrong with a beginning of pages with which nothing is wrong, and what is wrong stays wrong.
func TestBeginnings(t *testing.T) {
	found := map[uint8]bool{}
	for seed := range uint64(300) {
		d := &dice{2000 + seed}
		s := busySite(t)
		do(t, s.Advance(2), s.Rule("dry azurite"), s.Lay(0, false, "azurite"), s.Lay(1, true, "lime"))
		l := relinked(t, s.Pages(), func(_ int, p api.Page) string {
			if d.roll(20) > 0 {
				return p.Body
			}
			return d.near(p.Body)
		})
		finding := site.Check(l)
		end := len(l)
		if !finding.Ok {
			end = finding.At
			found[finding.What] = true
		}
		for n := range len(l) + 1 {
			if n <= end {
				want(t, "Check of a beginning", site.Check(l[:n]), api.Finding{Ok: true})
			} else {
				want(t, "Check of a longer beginning", site.Check(l[:n]), finding)
				want(t, "Told of a longer beginning", site.Told(l[:n]), site.Told(l[:end]))
			}
		}
		broken := slices.Clone(l)
		broken[len(l)-1].Prev[0]++
		if !finding.Ok && finding.At < len(l)-1 {
			want(t, "Check with another page behind", site.Check(broken), finding)
		}
	}
	want(t, "how many sorts of findings there were", len(found) >= 9, true)
}

// near returns a text in which one number, or something else, is changed.
func (d *dice) near(text string) string {
	for range 20 {
		at := d.roll(len(text))
		if text[at] >= '0' && text[at] <= '9' {
			return text[:at] + string(rune('0'+d.roll(10))) + text[at+1:]
		}
	}
	return d.spoilt(text)
}

// P10.4 (T9): a Body that is changed is found at its page, or at the next one.
func TestChanges(t *testing.T) {
	s := busySite(t)
	l := s.Pages()
	d := &dice{31}
	for at := range l[:len(l)-1] {
		for range 40 {
			out := slices.Clone(l)
			out[at].Body = []string{d.near(l[at].Body), d.spoilt(l[at].Body), ""}[d.roll(3)]
			if out[at].Body == l[at].Body {
				continue
			}
			f := site.Check(out)
			want(t, "a change that is found", !f.Ok && (f.At == at || f.At == at+1 && f.What == api.FindLink), true)
		}
	}
}

// T9: whoever links the pages anew is found as well, if a division, an order, a plan or a stroke is not as it had to be.
func TestForgeries(t *testing.T) {
	s := busySite(t)
	l := s.Pages()
	for _, x := range []struct {
		kind uint8
		body string
		what uint8
	}{
		{api.DosDivision, "day 0 1\n", api.FindDivision}, {api.DosPlan, "work 0\norder 0 1\nturn 0 0 0\nturn 2 0 0\n", api.FindOrder}, {api.DosPlan, "work 0\norder 1 0\nturn 0 0 0\nturn 4 0 0\n", api.FindEnd}, {api.DosPlan, "work 0\norder 1 0\nturn 0 0 0\nturn 1 0 0\n", api.FindPlan},
		{api.DosStroke, "stroke 0 0 1 azurite", api.FindStroke}, {api.DosLimits, "limits 120 0 10", api.FindLeast}, {api.DosRule, "1 0 dry lime", api.FindStroke},
	} {
		out := relinked(t, l, func(_ int, p api.Page) string {
			if p.Kind == x.kind {
				return x.body
			}
			return p.Body
		})
		f := site.Check(out)
		want(t, "what is found with "+x.body, f.What, x.what)
	}
}

// deliver lets each office greet each other one, in turn, and carries all messages in order until there are none.
func deliver(t *testing.T, s *site.Site, offices int) {
	t.Helper()
	for from := range offices {
		for to := range offices {
			if from != to {
				do(t, s.Greet(from, to))
			}
		}
	}
	for carried := true; carried; {
		carried = false
		for from := range offices {
			for to := range offices {
				for s.Carry(from, to, 0) == api.OK {
					carried = true
				}
			}
		}
	}
}

// grown wants registers that only grow, and to have all acts that were signed with OK.
func grown(t *testing.T, s *site.Site, had [][]api.Act) {
	t.Helper()
	for office := range had {
		now := s.Register(office)
		want(t, "a register", keep.Check(now), api.OK)
		merged, e := keep.Merge(had[office], now)
		wants(t, "a register that only grows", of(merged, e), now, api.OK)
		had[office] = now
	}
}

// P10.6 (T8): whatever is lost, repeated or crashes, all offices come to one record, and to one wall; all of it is entered.
func TestOneRecord(t *testing.T) {
	for seed := range uint64(40) {
		d := &dice{3000 + seed}
		offices := 2 + d.roll(4)
		s := newSite(t, offices)
		had := make([][]api.Act, offices)
		for range 150 {
			d.commands(offices)[[]int{0, 9, 12, 12, 12, 13, 13, 14, 14, 14, 14, 15, 16, 17, 18, 18}[d.roll(16)]].answer(s)
			grown(t, s, had)
		}
		for office := range offices {
			do(t, s.Crash(office, nil))
			for to := range offices {
				for s.Lose(office, to, 0) == api.OK {
				}
			}
		}
		grown(t, s, had)
		deliver(t, s, offices)
		grown(t, s, had)
		for office := range offices {
			want(t, "the register of an office", s.Register(office), s.Register(0))
			want(t, "the wall of an office", s.Wall(office), s.Wall(0))
			for other := range had {
				merged, e := keep.Merge(had[other], s.Register(office))
				wants(t, "the acts of all", of(merged, e), s.Register(office), api.OK)
			}
		}
		left := 1
		for left > 0 {
			var e api.Errno
			if left, e = s.Enter(); e != api.OK {
				want(t, "the error of Enter", e, api.ErrNone)
			}
		}
		acts := s.Account().Acts
		slices.SortFunc(acts, func(x, y api.Act) int { return (x.Day*8+x.Office)*501 + x.Number - (y.Day*8+y.Office)*501 - y.Number })
		want(t, "the acts of the account", acts, s.Register(0))
		audited(t, s)
	}
}

// P10.7: a crash of an office that was never down changes no answer.
func TestCrashesThatChangeNothing(t *testing.T) {
	for seed := range uint64(30) {
		d := &dice{4000 + seed}
		one, other := newSite(t, 3), newSite(t, 3)
		for range 100 {
			// Commands but stops and crashes.
			c := d.commands(3)[d.roll(17)]
			if d.roll(3) == 0 {
				c = d.questions(3)[d.roll(8)]
			}
			want(t, "an answer", c.answer(one), c.answer(other))
			if d.roll(4) == 0 {
				do(t, other.Crash(d.roll(3), [][]int{nil, {64, 64}, {3}}[d.roll(3)]))
			}
		}
	}
}

// dayOf returns the day of a thing in the work of an account.
func dayOf(a api.Account, thing int) int {
	return a.Work.Plan.Turns[slices.Index(a.Work.Order, thing-1)].Day
}

// P10.8 (T7): what is read is so, if what was observed is; and a reader who sees all neighbours knows all about them.
func TestReadIsTrue(t *testing.T) {
	certain := 0
	for seed := range uint64(30) {
		d := &dice{5000 + seed}
		s := newSite(t, 1)
		do(t, s.Draw(grid(1+d.roll(4), plain(10))), s.Limit("limits 10 0 20"), divide(s), s.Hire(wideYard(d.roll(3))), plan(s))
		a := s.Account()
		n := len(a.Division.Patches)
		for range d.roll(3 * n) {
			i, j := 1+d.roll(n), 1+d.roll(n)
			if i == j {
				continue
			}
			if dayOf(a, i) > dayOf(a, j) {
				i, j = j, i
			}
			do(t, s.Observe(strings.TrimSuffix(spell(d.pick("1 over", "2 over", "3 apart"), i, j), "\n")))
		}
		for i := 1; i <= n; i++ {
			for j := 1; j <= n; j++ {
				if i == j {
					continue
				}
				kind, ids, e := s.Read(i, j)
				want(t, "the error of Read", e, api.OK)
				before := dayOf(a, i) < dayOf(a, j)
				isTrue := map[uint8]bool{api.ReadOpen: true, api.ReadApart: true, api.ReadBefore: before, api.ReadAfter: !before}
				want(t, "what is read", isTrue[kind], true)
				want(t, "Ids that show it", len(ids) > 0, kind != api.ReadOpen)
				if kind == api.ReadBefore {
					certain++
				}
			}
		}
		audited(t, s)
	}
	want(t, "something is certain", certain > 50, true)
}

// T3: moving or mirroring a cartoon changes no cost; T6: no delay makes the end earlier.
func TestMovedSites(t *testing.T) {
	for seed := range uint64(20) {
		d := &dice{6000 + seed}
		source := grid(2+d.roll(3), func(i int) (int, string) { return 10 + 10*d.roll(3), " lime" })
		c, _ := cartoon.Parse(source)
		moved, _ := cartoon.Move(c, 7, 0)
		mirrored, _ := cartoon.Mirror(c, 500)
		var costs []api.Cost
		for _, text := range []string{source, cartoon.Print(moved), cartoon.Print(mirrored)} {
			s := newSite(t, 1)
			do(t, s.Draw(text), s.Limit("limits 40 0 20"))
			cost, e := s.Divide()
			want(t, "the error of Divide", e, api.OK)
			costs = append(costs, cost)
			do(t, s.Hire(wideYard(d.roll(3))))
			end, e := s.Plan()
			want(t, "the error of Plan", e, api.OK)
			do(t, s.Delay(1+d.roll(5)))
			later, e := s.Replan()
			want(t, "the error of Replan", e, api.OK)
			want(t, "an end that is not earlier", later >= end, true)
			audited(t, s)
		}
		want(t, "the costs", costs, []api.Cost{costs[0], costs[0], costs[0]})
	}
}
