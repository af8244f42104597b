package crew_test

import (
	"slices"
	"testing"

	"giornata/api"
	"giornata/crew"
)

// edit changes a valid yard.
type edit struct {
	name string
	make func(y *api.Yard)
}

// tooMany are yards that exceed a limit.
var tooMany = []edit{
	{"201 closed days", func(y *api.Yard) { y.Closed = from(0, 201) }},
	{"9 pits", func(y *api.Yard) { y.Pits = slices.Repeat(pits(0, 0, 1), 9) }},
	{"13 masters", func(y *api.Yard) { y.Masters = slices.Repeat([]api.Master{master("a", 0, 1, 1)}, 13) }},
	{"201 days that do not ascend", func(y *api.Yard) { y.Closed = make([]int, 201) }},
}

// unnamed are yards of which a Name is no name.
var unnamed = []edit{
	{"no name", func(y *api.Yard) { y.Masters[0].Name = "" }},
	{"the name of a later master", func(y *api.Yard) { y.Masters = append(y.Masters, master("Bob", 0, 1, 1)) }},
	{"a digit at first", func(y *api.Yard) { y.Masters[0].Name = "1a" }},
	{"a hyphen at first", func(y *api.Yard) { y.Masters[0].Name = "-a" }},
	{"25 bytes", func(y *api.Yard) { y.Masters[0].Name = longest + "a" }},
	{"a capital", func(y *api.Yard) { y.Masters[0].Name = "aB" }},
	{"a blank", func(y *api.Yard) { y.Masters[0].Name = "a b" }},
	{"a line feed", func(y *api.Yard) { y.Masters[0].Name = "a\n" }},
	{"another alphabet", func(y *api.Yard) { y.Masters[0].Name = "aä" }},
	{"no letter at all", func(y *api.Yard) { y.Masters[0].Name = "a\xff" }},
	{"an underscore", func(y *api.Yard) { y.Masters[0].Name = "a_b" }},
	{"behind the letters", func(y *api.Yard) { y.Masters[0].Name = "a{" }},
	{"before the letters", func(y *api.Yard) { y.Masters[0].Name = "`a" }},
	{"behind the digits", func(y *api.Yard) { y.Masters[0].Name = "a:" }},
	{"before the digits", func(y *api.Yard) { y.Masters[0].Name = "a/" }},
}

// outOfRange are yards that are not valid otherwise.
var outOfRange = []edit{
	{"Light below 0", func(y *api.Yard) { y.Seasons[0].Light = -1 }},
	{"Light of 1441", func(y *api.Yard) { y.Seasons[11].Light = 1441 }},
	{"Wet below 0", func(y *api.Yard) { y.Seasons[11].Wet = -1 }},
	{"Wet of 1441", func(y *api.Yard) { y.Seasons[0].Wet = 1441 }},
	{"a day below 0", func(y *api.Yard) { y.Closed = p(-1, 3) }},
	{"a day behind the last one", func(y *api.Yard) { y.Closed = p(3, 100001) }},
	{"a day twice", func(y *api.Yard) { y.Closed = p(3, 3) }},
	{"days that descend", func(y *api.Yard) { y.Closed = p(3, 2) }},
	{"a pit slaked below 0", func(y *api.Yard) { y.Pits[1].Slaked = -1 }},
	{"a pit slaked behind the last day", func(y *api.Yard) { y.Pits[1].Slaked = 100001 }},
	{"an age below 0", func(y *api.Yard) { y.Pits[0].Age = -1 }},
	{"an age of 10001", func(y *api.Yard) { y.Pits[0].Age = 10001 }},
	{"no batches", func(y *api.Yard) { y.Pits[0].Batches = 0 }},
	{"101 batches", func(y *api.Yard) { y.Pits[1].Batches = 101 }},
	{"a master from below 0", func(y *api.Yard) { y.Masters[0].From = -1 }},
	{"a master who is there on no day", func(y *api.Yard) { y.Masters[0].From = 100 }},
	{"a master until too late", func(y *api.Yard) { y.Masters[0].Until = 100002 }},
	{"no skill", func(y *api.Yard) { y.Masters[0].Skill = 0 }},
	{"a skill of 10", func(y *api.Yard) { y.Masters[0].Skill = 10 }},
	{"Dry below 0", func(y *api.Yard) { y.Dry = -1 }},
	{"Dry of 31", func(y *api.Yard) { y.Dry = 31 }},
	{"numbers whose sum is too great", func(y *api.Yard) { y.Pits[0] = api.Lime{Slaked: huge, Age: huge, Batches: huge} }},
}

// fullYard returns a valid yard with as much as may be of everything.
func fullYard() api.Yard {
	y := api.Yard{Closed: from(99801, 200), Pits: slices.Repeat(pits(100000, 10000, 100), 8), Dry: 30}
	for i := range y.Seasons {
		y.Seasons[i] = api.Season{Light: 1440, Wet: 1440}
	}
	y.Masters = slices.Repeat([]api.Master{master(longest, 0, 100001, 9), master("z", 100000, 100001, 1)}, 6)
	return y
}

// edited returns the yard of the chapter with some changes.
func edited(edits ...edit) api.Yard {
	y := chapterYard()
	for _, x := range edits {
		x.make(&y)
	}
	return y
}

// G1: which yards are valid.
func TestCheckYard(t *testing.T) {
	for _, y := range []api.Yard{{}, chapterYard(), brightYard(), fullYard(), {Closed: p(0, 100000)}, {Pits: pits(0, 0, 1)}, {Masters: []api.Master{master("a", 0, 1, 1)}}} {
		want(t, "CheckYard", crew.CheckYard(y), api.OK)
	}
	for _, name := range []string{"a", "z", "a0", "z9", "a-", "m-9-", longest} {
		want(t, "CheckYard with the name "+name, crew.CheckYard(edited(edit{"", func(y *api.Yard) { y.Masters[0].Name = name }})), api.OK)
	}
	for _, x := range tooMany {
		want(t, x.name, crew.CheckYard(edited(x)), api.ErrLimit)
	}
	for _, x := range unnamed {
		want(t, x.name, crew.CheckYard(edited(x)), api.ErrForm)
	}
	for _, x := range outOfRange {
		want(t, x.name, crew.CheckYard(edited(x)), api.ErrArg)
	}
}

// G1, R1: each error is looked for in the whole yard before the next one is.
func TestCheckYardInOrder(t *testing.T) {
	for _, arg := range outOfRange {
		for _, form := range unnamed {
			want(t, arg.name+", "+form.name, crew.CheckYard(edited(arg, form)), api.ErrForm)
		}
		for _, limit := range tooMany {
			want(t, arg.name+", "+limit.name, crew.CheckYard(edited(arg, limit)), api.ErrLimit)
			want(t, unnamed[0].name+", "+limit.name, crew.CheckYard(edited(arg, limit, edit{"", func(y *api.Yard) { y.Masters[0].Name = "" }})), api.ErrLimit)
		}
	}
}

// G2: the seasons of days.
func TestSeasonOf(t *testing.T) {
	y := brightYard()
	for i := range y.Seasons {
		y.Seasons[i] = api.Season{Light: 100 + i, Wet: 200 + i}
	}
	for _, x := range []struct{ day, season int }{
		{0, 0}, {29, 0}, {30, 1}, {59, 1}, {60, 2}, {329, 10}, {330, 11}, {359, 11}, {360, 0}, {389, 0}, {390, 1}, {719, 11}, {720, 0}, {99999, 9}, {100000, 9}, {99990, 9}, {99989, 8},
	} {
		want(t, "SeasonOf", crew.SeasonOf(y, x.day), y.Seasons[x.season])
	}
	for _, day := range p(-1, -360, -29, 100001, 100080, huge, tiny) {
		want(t, "SeasonOf of no day", crew.SeasonOf(y, day), api.Season{})
	}
	for day := range 800 {
		want(t, "SeasonOf", crew.SeasonOf(y, day), y.Seasons[day%360/30])
	}
	y.Closed = p(5)
	want(t, "SeasonOf of a closed day", crew.SeasonOf(y, 5), y.Seasons[0])
}

// G2: open days, their minutes, and their batches.
func TestDaysOfYards(t *testing.T) {
	y := chapterYard()
	wants(t, "Minutes", of(crew.Minutes(y, 2), crew.Minutes(y, 3), crew.Minutes(y, 30)), 500, 0, 0)
	wants(t, "Batches", of(crew.Batches(y, 1), crew.Batches(y, 2), crew.Batches(y, 5)), 0, 2, 11)
	wants(t, "Batches on a closed day", of(crew.Batches(y, 3), crew.Batches(y, 4), crew.Batches(y, 100000)), 2, 2, 11)
	y.Seasons[0] = api.Season{Light: 400, Wet: 500}
	wants(t, "Minutes with less light", of(crew.Minutes(y, 2), crew.Minutes(y, 360), crew.Minutes(y, 3)), 400, 400, 0)
	wants(t, "Open", of(crew.Open(y, 0), crew.Open(y, 2), crew.Open(y, 3), crew.Open(y, 4), crew.Open(y, 100000)), true, true, false, true, true)
	for _, day := range p(-1, 100001, tiny, huge, -359) {
		wants(t, "no day", of(crew.Open(y, day), crew.Minutes(y, day), crew.Batches(y, day)), false, 0, 0)
	}
	y.Pits = pits(100000, 10000, 1, 90000, 10000, 7)
	wants(t, "Batches at the end", of(crew.Batches(y, 99999), crew.Batches(y, 100000), crew.Batches(y, 100001), crew.Batches(y, 110000)), 0, 7, 0, 0)
	y.Closed = p(0, 100000)
	wants(t, "Open at the ends", of(crew.Open(y, 0), crew.Open(y, 1), crew.Open(y, 99999), crew.Open(y, 100000)), false, true, true, false)
	d := &dice{1}
	for range 300 {
		begin := offsets[d.roll(len(offsets))]
		m := model{Yard: d.yard(begin)}
		for day := begin - 3; day < begin+25; day++ {
			wants(t, "a day", of(crew.Open(m.Yard, day), crew.Minutes(m.Yard, day), crew.Batches(m.Yard, day)), m.open(day), m.minutes(day), m.batches(day))
		}
	}
}

// G3: masters who are there and can do it.
func TestSkilled(t *testing.T) {
	y := chapterYard()
	y.Masters = []api.Master{master("ann", 0, 100, 4), master("bob", 5, 6, 9), master("cat", 99, 100001, 4), master("ann", 2, 7, 1)}
	for _, x := range []struct {
		day, need int
		want      []int
	}{
		{0, 1, p(0)}, {0, 4, p(0)}, {0, 5, nil}, {4, 1, p(0, 3)}, {5, 1, p(0, 1, 3)}, {5, 2, p(0, 1)}, {5, 5, p(1)}, {5, 9, p(1)}, {5, 10, nil}, {6, 1, p(0, 3)}, {7, 1, p(0)}, {99, 4, p(0, 2)}, {100, 4, p(2)}, {100000, 4, p(2)}, {100000, 5, nil},
		{100001, 1, nil}, {-1, 1, nil}, {tiny, tiny, nil}, {huge, 0, nil}, {5, tiny, p(0, 1, 3)}, {5, 0, p(0, 1, 3)}, {5, huge, nil}, {3, 2, p(0)},
	} {
		want(t, "Skilled", crew.Skilled(y, x.day, x.need), x.want)
	}
	want(t, "Skilled on a closed day", crew.Skilled(y, 3, 1), p(0, 3))
	d := &dice{2}
	for range 300 {
		begin := offsets[d.roll(len(offsets))]
		m := model{Yard: d.yard(begin)}
		for day := begin - 3; day < begin+20; day++ {
			for need := range 7 {
				want(t, "Skilled", crew.Skilled(m.Yard, day, need), m.skilled(day, need))
			}
		}
	}
}

// G2, G3: nothing is said of a yard that is not valid.
func TestInvalidYards(t *testing.T) {
	for _, x := range slices.Concat(tooMany, unnamed, outOfRange) {
		y := edited(x)
		wants(t, "a yard with "+x.name, of(crew.SeasonOf(y, 2), crew.Open(y, 2), crew.Minutes(y, 2), crew.Batches(y, 5), crew.Skilled(y, 2, 1), crew.Fits(y, chapterTasks(), 0, 2)), api.Season{}, false, 0, 0, nil, false)
	}
}

// G10: one more closed day.
func TestClose(t *testing.T) {
	closed := func(days ...int) api.Yard {
		y := chapterYard()
		y.Closed = days
		return y
	}
	for _, x := range []struct {
		before api.Yard
		day    int
		after  api.Yard
		e      api.Errno
	}{
		{closed(3), 2, closed(2, 3), api.OK},
		{closed(3), 4, closed(3, 4), api.OK},
		{closed(3, 9), 5, closed(3, 5, 9), api.OK},
		{closed(), 0, closed(0), api.OK},
		{closed(), 100000, closed(100000), api.OK},
		{closed(), -1, api.Yard{}, api.ErrArg},
		{closed(), 100001, api.Yard{}, api.ErrArg},
		{closed(), huge, api.Yard{}, api.ErrArg},
		{closed(), tiny, api.Yard{}, api.ErrArg},
		{closed(3, 9), 3, api.Yard{}, api.ErrTwice},
		{closed(3, 9), 9, api.Yard{}, api.ErrTwice},
		{closed(from(0, 199)...), 300, closed(append(from(0, 199), 300)...), api.OK},
		{closed(from(0, 200)...), 300, api.Yard{}, api.ErrLimit},
		{closed(from(0, 200)...), 199, api.Yard{}, api.ErrTwice},
		{closed(from(0, 200)...), -1, api.Yard{}, api.ErrArg},
		{closed(3, 3), 5, api.Yard{}, api.ErrArg},
		{closed(from(0, 201)...), 300, api.Yard{}, api.ErrLimit},
		{edited(unnamed[0]), 3, api.Yard{}, api.ErrForm},
	} {
		wants(t, "Close", of(crew.Close(x.before, x.day)), x.after, x.e)
	}
	d := &dice{3}
	for range 200 {
		y := d.yard(0)
		day := d.roll(20)
		now, e := crew.Close(y, day)
		if slices.Contains(y.Closed, day) {
			wants(t, "Close of a closed day", of(now, e), api.Yard{}, api.ErrTwice)
			continue
		}
		want(t, "CheckYard of Close", of(crew.CheckYard(now), e), of(api.OK, api.OK))
		for other := range 20 {
			want(t, "Open", crew.Open(now, other), other != day && crew.Open(y, other))
		}
	}
}
