package reading_test

import (
	"slices"
	"strconv"
	"testing"

	"giornata/api"
	"giornata/reading"
)

// wellFormed are observations of all kinds, at the limits of their fields, which are well-formed for 24 things.
var wellFormed = list(
	"1 0 1 over 1 2", "1000000 100000 1000000 over 24 23", "7 5 3 over 1 24", "1 0 1 same 2 1", "1000000 100000 1000000 same 1 24", "1 0 1 apart 24 1", "1000000 100000 1000000 apart 12 13",
	"1 0 1 void 1", "1 0 1 void 2", "1000000 100000 1000000 void 1000000", "9 9 9 void 8",
)

// malformed returns observations of which one field is wrong, for 24 things.
func malformed() []api.Observation {
	out := []api.Observation{{}, {Id: 1, Reader: 1}, {Id: 1, Reader: 1, A: 1, B: 2}, {Id: 1, Reader: 1, Kind: 5, A: 1, B: 2}, {Id: 1, Reader: 1, Kind: 255, A: 1, B: 2}, {Id: 1, Reader: 1, Kind: 5, Of: 1}, {Id: 1, Reader: 1, Of: 1}}
	for _, x := range wellFormed {
		with := func(change func(x *api.Observation)) {
			y := x
			change(&y)
			out = append(out, y)
		}
		for _, id := range p(0, -1, 1000001, huge, tiny) {
			with(func(x *api.Observation) { x.Id = id })
			with(func(x *api.Observation) { x.Reader = id })
		}
		for _, known := range p(-1, 100001, huge, tiny) {
			with(func(x *api.Observation) { x.Known = known })
		}
		if x.Kind == api.ObVoid {
			for _, n := range p(0, -1, 1000001, huge, tiny) {
				with(func(x *api.Observation) { x.Of = n })
			}
			for _, n := range p(1, -1, 24, huge) {
				with(func(x *api.Observation) { x.A = n })
				with(func(x *api.Observation) { x.B = n })
			}
			continue
		}
		for _, n := range p(0, -1, 25, huge, tiny) {
			with(func(x *api.Observation) { x.A = n })
			with(func(x *api.Observation) { x.B = n })
		}
		with(func(x *api.Observation) { x.B = x.A })
		with(func(x *api.Observation) { x.A = x.B })
		for _, n := range p(1, -1, 1000000, huge) {
			with(func(x *api.Observation) { x.Of = n })
		}
	}
	return out
}

func spelt(x api.Observation) string {
	out := "observation"
	for _, n := range p(x.Id, x.Known, x.Reader, int(x.Kind), x.A, x.B, x.Of) {
		out += " " + strconv.Itoa(n)
	}
	return out
}

// H1: lists that are valid, and the limits.
func TestCheck(t *testing.T) {
	for _, x := range []struct {
		name string
		n    int
		l    []api.Observation
	}{
		{"the chapter's", 4, chapterList()},
		{"no things", 0, nil},
		{"24 things", 24, nil},
		{"300 observations", 2, many(300)},
		{"days that are equal, and Ids in any order", 3, list("9 5 1 over 1 2", "1 5 1 same 2 3", "5 5 1 apart 1 3")},
		{"observations that contradict each other", 2, facts("1 over 1 2", "2 over 2 1", "3 same 1 2", "4 apart 1 2")},
		{"the same twice", 2, facts("1 over 1 2", "2 over 1 2")},
		{"taken back twice", 2, facts("1 over 1 2", "2 void 1", "3 void 1")},
		{"taken back by its own reader among others", 2, list("1 0 1 over 1 2", "2 0 2 over 1 2", "3 0 2 void 2", "4 0 1 void 1")},
		{"a reader for each", 3, list("1 0 1000000 over 1 2", "2 0 1 over 2 3")},
	} {
		wants(t, "Check of "+x.name, of(reading.Check(x.n, x.l)), 0, api.OK)
	}
	for _, x := range wellFormed {
		if x.Kind != api.ObVoid {
			wants(t, "Check of "+spelt(x), of(reading.Check(24, []api.Observation{x})), 0, api.OK)
		}
	}
}

// H1: each error, the observation that is refused, and the order of the errors.
func TestCheckErrors(t *testing.T) {
	behind := func(l []api.Observation, more ...api.Observation) []api.Observation { return slices.Concat(l, more) }
	for _, x := range []struct {
		name string
		n    int
		l    []api.Observation
		at   int
		e    api.Errno
	}{
		{"25 things", 25, nil, 0, api.ErrArg},
		{"-1 things", -1, nil, 0, api.ErrArg},
		{"too many things for what is wrong later", 25, facts("1 over 1 2", "1 over 1 2"), 0, api.ErrArg},
		{"a thing of no things", 0, facts("1 over 1 2"), 0, api.ErrArg},
		{"a thing too much", 3, facts("1 over 1 3", "2 over 1 4"), 1, api.ErrArg},
		{"a thing too much, as A", 3, facts("1 over 1 3", "2 same 4 1"), 1, api.ErrArg},
		{"one thing", 1, facts("1 apart 1 1"), 0, api.ErrArg},
		{"301 observations", 2, many(301), 300, api.ErrLimit},
		{"400 observations", 2, many(400), 300, api.ErrLimit},
		{"the 301st is not well-formed", 2, behind(many(300), api.Observation{}), 300, api.ErrArg},
		{"the 301st is wrong otherwise", 2, behind(list("1 5 1 over 1 2"), behind(list("2 5 1 over 1 2"), behind(shifted(many(298), 2, 5), list("1 0 1 over 1 2")...)...)...), 300, api.ErrLimit},
		{"an earlier day", 2, list("1 5 1 over 1 2", "2 5 1 over 1 2", "3 4 1 over 1 2"), 2, api.ErrTime},
		{"an earlier day than that of the one before alone", 2, list("1 3 1 over 1 2", "2 5 1 over 1 2", "3 4 1 over 1 2"), 2, api.ErrTime},
		{"well-formed before the day", 2, list("1 5 1 over 1 2", "2 4 1 over 1 1"), 1, api.ErrArg},
		{"the day before the Id", 2, list("1 5 1 over 1 2", "1 4 1 over 1 2"), 1, api.ErrTime},
		{"an Id twice", 2, list("1 0 1 over 1 2", "2 0 1 same 1 2", "1 0 2 over 1 2"), 2, api.ErrTwice},
		{"an Id twice, of one that was taken back", 2, facts("1 over 1 2", "2 void 1", "1 over 1 2"), 2, api.ErrTwice},
		{"an Id twice, of a void", 2, facts("1 over 1 2", "2 void 1", "2 same 1 2"), 2, api.ErrTwice},
		{"the Id before what it takes back", 2, facts("1 over 1 2", "1 void 9"), 1, api.ErrTwice},
		{"the day before what it takes back", 2, list("1 5 1 over 1 2", "2 4 1 void 9"), 1, api.ErrTime},
		{"takes nothing back", 2, facts("1 over 1 2", "2 void 3"), 1, api.ErrNone},
		{"takes itself back", 2, facts("1 over 1 2", "2 void 2"), 1, api.ErrNone},
		{"takes a later one back", 2, facts("1 void 2", "2 over 1 2"), 0, api.ErrNone},
		{"takes a void back", 2, facts("1 over 1 2", "2 void 1", "3 void 2"), 2, api.ErrArg},
		{"takes a void of another reader back", 2, list("1 0 1 over 1 2", "2 0 1 void 1", "3 0 2 void 2"), 2, api.ErrArg},
		{"takes back what another reader saw", 2, list("1 0 1 over 1 2", "2 0 2 over 1 2", "3 0 2 void 1"), 2, api.ErrState},
		{"the first one decides", 2, list("1 5 1 over 1 2", "1 5 1 over 1 2", "2 0 1 over 1 1"), 1, api.ErrTwice},
	} {
		wants(t, "Check of "+x.name, of(reading.Check(x.n, x.l)), x.at, x.e)
	}
	for _, x := range malformed() {
		wants(t, "Check of "+spelt(x), of(reading.Check(24, slices.Concat(facts("3 over 1 2"), []api.Observation{x}))), 1, api.ErrArg)
	}
}

// shifted returns observations with greater Ids and another day.
func shifted(l []api.Observation, more, known int) []api.Observation {
	for i := range l {
		l[i].Id, l[i].Known = l[i].Id+more, known
	}
	return l
}

// checked finds by the words of the chapter what Check says of n things from 0 to 24.
func checked(n int, l []api.Observation) (int, api.Errno) {
	for i, x := range l {
		isId := func(n int) bool { return 1 <= n && n <= 1000000 }
		isThing := func(thing int) bool { return 1 <= thing && thing <= n }
		formed := isId(x.Id) && isId(x.Reader) && 0 <= x.Known && x.Known <= 100000
		switch x.Kind {
		case 1, 2, 3:
			formed = formed && isThing(x.A) && isThing(x.B) && x.A != x.B && x.Of == 0
		case 4:
			formed = formed && isId(x.Of) && x.A == 0 && x.B == 0
		default:
			formed = false
		}
		var named api.Observation
		for _, y := range l[:i] {
			if y.Id == x.Of {
				named = y
			}
		}
		switch {
		case !formed:
			return i, api.ErrArg
		case i == 300:
			return i, api.ErrLimit
		case i > 0 && x.Known < l[i-1].Known:
			return i, api.ErrTime
		case slices.ContainsFunc(l[:i], func(y api.Observation) bool { return y.Id == x.Id }):
			return i, api.ErrTwice
		case x.Kind == 4 && named.Id == 0:
			return i, api.ErrNone
		case x.Kind == 4 && named.Kind == 4:
			return i, api.ErrArg
		case x.Kind == 4 && named.Reader != x.Reader:
			return i, api.ErrState
		}
	}
	return 0, api.OK
}

// any returns an observation that may be wrong in some way, and may not fit behind others.
func (d *dice) any(n int) api.Observation {
	x := d.fact(n)
	x.Id, x.Known, x.Reader = 1+d.roll(20), d.roll(8), 1+d.roll(2)
	if d.roll(3) == 0 {
		x.Kind, x.A, x.B, x.Of = api.ObVoid, 0, 0, 1+d.roll(20)
	}
	switch d.roll(30) {
	case 0:
		x.Kind = uint8(d.roll(256))
	case 1:
		x.A = x.B
	case 2:
		x.Of = d.roll(3)
	case 3:
		x.Known = -1
	}
	return x
}

// H1, H2: any observations behind valid ones.
func TestCheckAndAppend(t *testing.T) {
	d := &dice{1}
	for range 2000 {
		n := 2 + d.roll(4)
		l := d.list(n, 8)
		wants(t, "Check of a valid list", of(reading.Check(n, l)), 0, api.OK)
		x := d.any(n)
		x.Known += d.roll(12)
		longer := slices.Concat(l, []api.Observation{x})
		at, e := checked(n, longer)
		wants(t, "Check of one more", of(reading.Check(n, longer)), at, e)
		if e != api.OK {
			longer = nil
		}
		wants(t, "Append", of(reading.Append(n, l, x)), longer, e)
	}
	for range 500 {
		var l []api.Observation
		for range d.roll(6) {
			l = append(l, d.any(4))
		}
		at, e := checked(4, l)
		wants(t, "Check of any list", of(reading.Check(4, l)), at, e)
	}
}

// H2: Append.
func TestAppend(t *testing.T) {
	l := chapterList()
	for i, x := range l {
		wants(t, "Append", of(reading.Append(4, l[:i], x)), l[:i+1], api.OK)
	}
	wants(t, "Append to 299", of(reading.Append(2, many(299), many(300)[299])), many(300), api.OK)
	for _, x := range []struct {
		name string
		n    int
		l    []api.Observation
		x    api.Observation
		e    api.Errno
	}{
		{"to a full list", 2, many(300), many(301)[300], api.ErrLimit},
		{"to a full list one that is not well-formed", 2, many(300), api.Observation{}, api.ErrArg},
		{"to a list that is too long", 2, many(301), api.Observation{}, api.ErrLimit},
		{"for 25 things", 25, l, fact("over 1 2"), api.ErrArg},
		{"a thing that is none", 4, l, list("6 7 1 over 1 5")[0], api.ErrArg},
		{"an earlier day", 4, l, list("6 6 1 over 1 2")[0], api.ErrTime},
		{"an Id that is there", 4, l, list("4 7 1 over 1 2")[0], api.ErrTwice},
		{"what takes nothing back", 4, l, list("6 7 1 void 7")[0], api.ErrNone},
		{"what takes itself back", 4, l, list("6 7 1 void 6")[0], api.ErrNone},
		{"what takes a void back", 4, l, list("6 7 2 void 5")[0], api.ErrArg},
		{"what takes back for another reader", 4, l, list("6 7 1 void 3")[0], api.ErrState},
		{"to a list that is not valid a good one", 2, list("1 5 1 over 1 2", "2 4 1 over 1 2"), list("3 5 1 over 1 2")[0], api.ErrTime},
		{"to a list that is not valid one that is not well-formed", 2, list("1 5 1 over 1 2", "2 4 1 over 1 2"), api.Observation{}, api.ErrTime},
	} {
		wants(t, "Append "+x.name, of(reading.Append(x.n, x.l, x.x)), nil, x.e)
	}
}

// H3: what counts, of valid lists and of others.
func TestCounting(t *testing.T) {
	l := chapterList()
	for _, x := range []struct {
		name  string
		l     []api.Observation
		known int
		want  []api.Observation
	}{
		{"no list", nil, 5, nil},
		{"before all days", l, -1, nil},
		{"before all days, from the least number on", l, tiny, nil},
		{"the first day", l, 0, l[:2]},
		{"the day before the next one", l, 4, l[:2]},
		{"the day of the next one", l, 5, l[:3]},
		{"the day before one is taken back", l, 6, l[:4]},
		{"the day on which it is taken back", l, 7, l[:3]},
		{"much later", l, huge, l[:3]},
		{"taken back on its own day", list("1 3 1 over 1 2", "2 3 1 void 1"), 3, nil},
		{"one of two that are alike", facts("1 over 1 2", "2 over 1 2", "3 void 1"), 0, facts("2 over 1 2")},
		{"in the order of the list", facts("9 apart 1 2", "2 same 1 3", "5 over 3 1"), 0, facts("9 apart 1 2", "2 same 1 3", "5 over 3 1")},
		{"days in any order", list("1 5 1 over 1 2", "2 3 1 over 1 3", "3 9 1 over 1 4"), 5, list("1 5 1 over 1 2", "2 3 1 over 1 3")},
		{"a void before what it names", facts("1 void 2", "2 over 1 2"), 0, nil},
		{"a void of an Id that occurs twice", facts("1 over 1 2", "1 same 1 2", "2 void 1", "3 over 2 1"), 0, facts("3 over 2 1")},
		{"a void that another one names", facts("1 over 1 2", "2 void 1", "3 void 2"), 0, nil},
		{"not well-formed", facts("-1 over 7 7", "0 same 1 30"), 0, facts("-1 over 7 7", "0 same 1 30")},
		{"of no kind", []api.Observation{{}, {Id: 1, Reader: 1, A: 1, B: 2}, {Id: 2, Reader: 1, Kind: 5, A: 1, B: 2}}, 0, nil},
		{"301 observations", many(301), 0, many(301)},
	} {
		want(t, "Counting of "+x.name, reading.Counting(x.l, x.known), x.want)
	}
	d := &dice{2}
	for range 300 {
		l := d.list(4, 12)
		for known := range 12 {
			want(t, "Counting", reading.Counting(l, known), counted(l, known))
		}
	}
}
