package reading_test

import (
	"slices"
	"strconv"
	"testing"

	"giornata/api"
	"giornata/reading"
)

// sample is a list of observations of a few things, and a day.
type sample struct {
	n, known int
	l        []api.Observation
}

// samples returns lists of at most most observations, on days on which some of them count, or all. Every eighth one may be of no things, or of one.
func samples(seed uint64, count, things, most int) []sample {
	d := &dice{seed}
	var out []sample
	for i := range count {
		n := 2 + d.roll(things-1)
		if i%8 == 0 {
			n = d.roll(2)
		}
		x := sample{n: n, l: d.list(n, most), known: d.roll(16) + 16*d.roll(2)}
		if i%2 == 0 {
			x.l, _ = d.seen(n, most)
		}
		out = append(out, x)
	}
	return out
}

func (x sample) model() model { return modelOf(x.n, x.l, x.known) }

// ringOf returns n steps, from each thing to the next one, and from the last one to the first one, with Ids from first on.
func ringOf(n, first int) []api.Observation {
	var out []api.Observation
	for i := range n {
		out = append(out, api.Observation{Id: first + i, Reader: 1, Kind: api.ObOver, A: 1 + i, B: 1 + (i+1)%n})
	}
	return out
}

// sameRow returns n - 1 observations that n things were laid on one day, each with the next one, with Ids from first on.
func sameRow(n, first int) []api.Observation {
	var out []api.Observation
	for i := range n - 1 {
		out = append(out, api.Observation{Id: first + i, Reader: 1, Kind: api.ObSame, A: 1 + i, B: 2 + i})
	}
	return out
}

// conflicts are lists, and the first list of Ids that contradict each other.
var conflicts = []struct {
	name  string
	n     int
	l     []api.Observation
	known int
	ids   []int
}{
	{"no things", 0, nil, 0, nil},
	{"nothing seen", 24, nil, 0, nil},
	{"the chapter's", 4, chapterList(), 6, p(1, 2, 3, 4)},
	{"the chapter's, the day before", 4, chapterList(), 5, nil},
	{"the chapter's, when one was taken back", 4, chapterList(), 7, nil},
	{"over both ways", 2, facts("2 over 1 2", "9 over 2 1"), 0, p(2, 9)},
	{"over, and on one day", 2, facts("1 over 1 2", "2 same 1 2"), 0, p(1, 2)},
	{"over, and on one day, the other way round", 2, facts("1 over 1 2", "2 same 2 1"), 0, p(1, 2)},
	{"apart, and on one day", 2, facts("7 apart 1 2", "6 same 2 1"), 0, p(6, 7)},
	{"apart, and over", 2, facts("1 apart 1 2", "2 over 1 2", "3 over 1 2", "4 apart 2 1"), 0, nil},
	{"apart twice", 3, facts("1 apart 1 2", "2 apart 2 3", "3 apart 3 1", "4 apart 2 1"), 0, nil},
	{"on one day all round", 3, facts("1 same 1 2", "2 same 2 3", "3 same 3 1"), 0, nil},
	{"apart, and on one day by others", 4, facts("1 same 1 2", "2 same 3 2", "3 same 3 4", "4 apart 4 1"), 0, p(1, 2, 3, 4)},
	{"apart of two classes", 4, facts("1 same 1 2", "2 same 3 4", "3 apart 2 3", "4 over 1 4"), 0, nil},
	{"before by one step and after by another one, through classes", 4, facts("1 same 1 2", "2 same 3 4", "3 over 1 3", "4 over 4 2"), 0, p(1, 2, 3, 4)},
	{"a ring of steps", 24, ringOf(24, 5), 0, from(5, 24)},
	{"apart at the ends of a row", 24, append(sameRow(24, 1), api.Observation{Id: 99, Reader: 1, Kind: api.ObApart, A: 24, B: 1}), 0, append(from(1, 23), 99)},
	{"over from end to end of a row", 24, append(sameRow(24, 2), api.Observation{Id: 1, Reader: 1, Kind: api.ObOver, A: 24, B: 1}), 0, from(1, 24)},
	{"the shorter of two", 5, facts("1 over 1 2", "2 over 2 3", "3 over 3 1", "8 over 4 5", "9 over 5 4"), 0, p(8, 9)},
	{"the first of two that are as long", 4, facts("1 over 1 2", "8 over 2 1", "2 over 3 4", "3 over 4 3"), 0, p(1, 8)},
	{"the first by the second Id", 3, facts("1 over 1 2", "5 over 2 1", "4 same 1 2", "3 over 2 3"), 0, p(1, 4)},
	{"the first of ways round in another order", 4, facts("9 over 1 2", "1 over 2 3", "2 over 1 4", "3 over 4 3", "8 over 3 1"), 0, p(1, 8, 9)},
	{"the first by Ids, not by places in the list", 2, facts("9 over 1 2", "8 over 2 1", "7 over 1 2", "6 over 2 1"), 0, p(6, 7)},
	{"apart rather than over", 4, facts("5 over 1 2", "6 over 2 1", "1 same 3 4", "2 apart 3 4"), 0, p(1, 2)},
	{"over rather than apart", 4, facts("1 over 1 2", "2 over 2 1", "5 same 3 4", "6 apart 3 4"), 0, p(1, 2)},
	{"a way that leads to a circle and back is longer", 4, facts("1 same 1 2", "2 over 2 3", "3 over 3 2"), 0, p(2, 3)},
	{"one that does not count on the day", 2, list("1 0 1 over 1 2", "2 3 1 over 2 1"), 2, nil},
	{"one that counts from the day on", 2, list("1 0 1 over 1 2", "2 3 1 over 2 1"), 3, p(1, 2)},
}

// H4, H5: whether observations agree, and the first conflict.
func TestConflict(t *testing.T) {
	for _, x := range conflicts {
		wants(t, "Conflict: "+x.name, of(reading.Conflict(x.n, x.l, x.known)), x.ids, x.ids != nil, api.OK)
		wants(t, "Consistent: "+x.name, of(reading.Consistent(x.n, x.l, x.known)), x.ids == nil, api.OK)
	}
	for _, x := range samples(11, 600, 5, 9) {
		m := x.model()
		ids, is := m.conflict()
		wants(t, "Conflict", of(reading.Conflict(x.n, x.l, x.known)), ids, is, api.OK)
		wants(t, "Consistent", of(reading.Consistent(x.n, x.l, x.known)), !is, api.OK)
	}
}

// parallel returns observations of a ring of things, with several between neighbours, and some that lead farther.
func (d *dice) parallel(n int, kinds ...int) []api.Observation {
	var out []api.Observation
	for a := 1; a <= n; a++ {
		for range 1 + d.roll(2) {
			kind := uint8(kinds[d.roll(len(kinds))])
			out = append(out, api.Observation{Reader: 1, Kind: kind, A: a, B: a%n + 1})
		}
		if d.roll(4) == 0 {
			out = append(out, api.Observation{Reader: 1, Kind: api.ObOver, A: a, B: (a+1)%n + 1})
		}
	}
	for i, id := range d.shuffled(len(out)) {
		out[i].Id = id
		if j := d.roll(i + 1); d.roll(2) == 0 {
			out[i].A, out[i].B, out[j].A, out[j].B = out[j].A, out[j].B, out[i].A, out[i].B
		}
	}
	return out
}

// H5: conflicts of many observations, of which several are as short.
func TestLongConflicts(t *testing.T) {
	d := &dice{12}
	for range 150 {
		n := 3 + d.roll(5)
		l := d.parallel(n, 1, 1, 2, 3)
		ids := trails{l}.conflict(n)
		wants(t, "Conflict", of(reading.Conflict(n, l, 0)), ids, ids != nil, api.OK)
	}
}

// H5: what is a conflict, without any more than it needs.
func TestCheckConflict(t *testing.T) {
	for _, x := range []struct {
		name  string
		l     []api.Observation
		known int
		ids   []int
		want  bool
	}{
		{"the chapter's", chapterList(), 6, p(1, 2, 3, 4), true},
		{"the day before", chapterList(), 5, p(1, 2, 3, 4), false},
		{"when one was taken back", chapterList(), 7, p(1, 2, 3, 4), false},
		{"one left out", chapterList(), 6, p(1, 2, 3), false},
		{"the void as well", chapterList(), 6, p(1, 2, 3, 4, 5), false},
		{"in another order", chapterList(), 6, p(1, 2, 4, 3), false},
		{"one twice", chapterList(), 6, p(1, 1, 2, 3, 4), false},
		{"no Ids", chapterList(), 6, nil, false},
		{"an Id that is not there", chapterList(), 6, p(1, 2, 3, 4, 6), false},
		{"wrong Ids", chapterList(), 6, p(tiny, 0, huge), false},
		{"a needless one", facts("1 over 1 2", "2 over 2 1", "3 over 3 4"), 0, p(1, 2, 3), false},
		{"a needless one before", facts("3 over 1 2", "2 over 2 1", "1 over 3 4"), 0, p(1, 2, 3), false},
		{"two conflicts", facts("1 over 1 2", "2 over 2 1", "3 over 3 4", "4 over 4 3"), 0, p(1, 2, 3, 4), false},
		{"one that another one makes needless", facts("1 over 1 2", "2 over 2 1", "3 over 1 2"), 0, p(1, 2, 3), false},
		{"one that is not the first one", facts("1 over 1 2", "2 over 2 1", "3 over 3 4", "4 over 4 3"), 0, p(3, 4), true},
		{"one that is not the shortest one", facts("1 over 1 2", "2 over 2 3", "3 over 3 1", "4 over 4 3", "5 over 3 4"), 0, p(1, 2, 3), true},
		{"apart and on one day", facts("1 apart 1 2", "2 same 1 3", "3 same 3 2"), 0, p(1, 2, 3), true},
		{"Ids that ascend otherwise than the list", facts("9 over 1 2", "8 over 2 1"), 0, p(8, 9), true},
		{"Ids as in a list that does not ascend", facts("9 over 1 2", "8 over 2 1"), 0, p(9, 8), false},
	} {
		wants(t, "CheckConflict: "+x.name, of(reading.CheckConflict(4, x.l, x.known, x.ids)), x.want, api.OK)
	}
	for _, x := range samples(13, 120, 5, 7) {
		m := x.model()
		for places := range m.whole() + 1 {
			is := m.possible(places).isEmpty()
			for i := range m.seen {
				is = is && (places&(1<<i) == 0 || !m.possible(places&^(1<<i)).isEmpty())
			}
			wants(t, "CheckConflict", of(reading.CheckConflict(x.n, x.l, x.known, m.ids(places))), is, api.OK)
		}
	}
}

// H6: the first list of observations without which the others agree.
func TestMend(t *testing.T) {
	for _, x := range []struct {
		name  string
		n     int
		l     []api.Observation
		known int
		ids   []int
		e     api.Errno
	}{
		{"no things", 0, nil, 0, nil, api.OK},
		{"the chapter's", 4, chapterList(), 6, p(1), api.OK},
		{"when one was taken back", 4, chapterList(), 7, nil, api.OK},
		{"two that contradict each other", 2, facts("5 over 1 2", "3 over 2 1"), 0, p(3), api.OK},
		{"one of two circles", 3, facts("1 over 1 2", "2 over 2 1", "3 over 3 2", "4 over 1 3"), 0, p(2), api.OK},
		{"one for two conflicts rather than the first one of each", 4, facts("1 over 1 2", "2 over 1 2", "3 over 2 1"), 0, p(3), api.OK},
		{"two conflicts that share nothing", 4, facts("9 over 1 2", "2 over 2 1", "8 same 3 4", "4 apart 4 3"), 0, p(2, 4), api.OK},
		{"the first of lists by their last Ids", 3, facts("1 over 1 2", "2 over 1 2", "3 over 2 1", "4 over 2 1"), 0, p(1, 2), api.OK},
		{"12 that agree", 2, many(12), 0, nil, api.OK},
		{"12 of which 11 contradict one", 2, append(many(11), facts("12 same 1 2")...), 0, p(12), api.OK},
		{"12 that are contrary by halves", 2, append(many(6), facts("7 same 1 2", "8 same 1 2", "9 same 1 2", "10 same 1 2", "11 same 1 2", "12 same 1 2")...), 0, from(1, 6), api.OK},
		{"13", 2, many(13), 0, nil, api.ErrLimit},
		{"13, of which one is taken back", 2, append(many(13), facts("14 void 7")...), 0, nil, api.OK},
		{"13, of which one is not known", 2, append(many(12), list("13 5 1 same 1 2")...), 4, nil, api.OK},
		{"13, of which one is known since that day", 2, append(many(12), list("13 5 1 same 1 2")...), 5, nil, api.ErrLimit},
		{"300", 2, many(300), 0, nil, api.ErrLimit},
	} {
		wants(t, "Mend: "+x.name, of(reading.Mend(x.n, x.l, x.known)), x.ids, x.e)
	}
	for _, x := range samples(14, 300, 5, 8) {
		wants(t, "Mend", of(reading.Mend(x.n, x.l, x.known)), x.model().mend(), api.OK)
	}
}

// H5: 300 observations of 24 things.
func TestConflictOfMany(t *testing.T) {
	var l []api.Observation
	for i := range 300 {
		a := i % 24
		l = append(l, api.Observation{Id: 300 - i, Reader: 1, Kind: api.ObOver, A: 1 + a, B: 1 + (a+1)%24})
	}
	// The least Ids of the steps are 1 to 24: 300 observations are 12 rings of 24 and a half one.
	wants(t, "Conflict of many rings", of(reading.Conflict(24, l, 0)), from(1, 24), true, api.OK)
	wants(t, "CheckConflict of many rings", of(reading.CheckConflict(24, l, 0, from(1, 24))), true, api.OK)
	for i := range l {
		if l[i].A == 24 {
			l[i].A, l[i].B = 1, 24
		}
	}
	wants(t, "Conflict of many rows", of(reading.Conflict(24, l, 0)), nil, false, api.OK)
	wants(t, "Why of many rows", of(reading.Why(24, l, 0, 1, 23)), leastSteps(l, 22), api.OK)
	wants(t, "Why of the steps from end to end", of(reading.Why(24, l, 0, 24, 1)), slices.DeleteFunc(leastSteps(l, 24), func(id int) bool { return !isStep(l, id, 1, 24) }), api.OK)
}

// leastSteps returns the least Id of a step from each of the first things.
func leastSteps(l []api.Observation, count int) []int {
	least := map[string]int{}
	for _, x := range l {
		key := strconv.Itoa(x.A) + " " + strconv.Itoa(x.B)
		if x.A <= count && (x.B == x.A+1 || count == 24) && (least[key] == 0 || x.Id < least[key]) {
			least[key] = x.Id
		}
	}
	var out []int
	for _, id := range least {
		out = append(out, id)
	}
	slices.Sort(out)
	return out
}

func isStep(l []api.Observation, id, a, b int) bool {
	return slices.ContainsFunc(l, func(x api.Observation) bool { return x.Id == id && x.A == a && x.B == b })
}
