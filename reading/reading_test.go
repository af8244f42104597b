package reading_test

import (
	"slices"
	"testing"

	"giornata/api"
	"giornata/reading"
)

// readings are lists, two things, what is read about them, and why.
var readings = []struct {
	name  string
	l     []api.Observation
	known int
	a, b  int
	kind  uint8
	why   []int
}{
	{"nothing seen", nil, 0, 1, 2, api.ReadOpen, nil},
	{"the chapter's", chapterList(), 0, 1, 3, api.ReadBefore, p(1, 2)},
	{"the chapter's, back", chapterList(), 0, 3, 1, api.ReadAfter, p(1, 2)},
	{"the chapter's, open", chapterList(), 0, 1, 4, api.ReadOpen, nil},
	{"the chapter's, later", chapterList(), 5, 1, 4, api.ReadBefore, p(1, 2, 3)},
	{"the chapter's, on one day", chapterList(), 7, 3, 2, api.ReadSame, p(2)},
	{"the chapter's, when one is taken back", chapterList(), 7, 4, 1, api.ReadAfter, p(1, 2, 3)},
	{"over", facts("1 over 2 1"), 0, 1, 2, api.ReadAfter, p(1)},
	{"apart", facts("4 apart 2 1"), 0, 1, 2, api.ReadApart, p(4)},
	{"apart, back", facts("4 apart 2 1"), 0, 2, 1, api.ReadApart, p(4)},
	{"apart and over", facts("1 apart 1 2", "2 over 1 2"), 0, 1, 2, api.ReadBefore, p(2)},
	{"apart and over, back", facts("1 apart 1 2", "2 over 1 2"), 0, 2, 1, api.ReadAfter, p(2)},
	{"apart and over by others", facts("1 apart 1 2", "2 over 1 3", "3 over 3 2"), 0, 1, 2, api.ReadBefore, p(2, 3)},
	{"apart twice", facts("1 apart 1 2", "2 apart 2 3"), 0, 1, 3, api.ReadOpen, nil},
	{"apart of those that are on one day with them", facts("1 same 1 3", "2 apart 4 3", "3 same 2 4"), 0, 1, 2, api.ReadApart, p(1, 2, 3)},
	{"apart of those that are on one day with them, back", facts("1 same 1 3", "2 apart 4 3", "3 same 2 4"), 0, 2, 1, api.ReadApart, p(1, 2, 3)},
	{"apart of one that is on one day with the second one", facts("1 apart 1 3", "2 same 2 3"), 0, 1, 2, api.ReadApart, p(1, 2)},
	{"apart of one that is before", facts("1 over 1 3", "2 apart 3 2"), 0, 1, 2, api.ReadOpen, nil},
	{"on one day by others", facts("5 same 4 1", "3 same 3 4", "7 same 3 2"), 0, 1, 2, api.ReadSame, p(3, 5, 7)},
	{"on one day with one that is before", facts("1 same 1 3", "2 over 3 2"), 0, 1, 2, api.ReadBefore, p(1, 2)},
	{"two later ones", facts("1 over 3 1", "2 over 3 2"), 0, 1, 2, api.ReadOpen, nil},
	{"two earlier ones", facts("1 over 1 3", "2 over 2 3"), 0, 1, 2, api.ReadOpen, nil},
	{"steps, and on one day between", facts("1 over 1 3", "2 same 4 3", "3 over 4 2"), 0, 1, 2, api.ReadBefore, p(1, 2, 3)},
	{"others that are apart from each other", facts("1 apart 3 4"), 0, 1, 2, api.ReadOpen, nil},
	{"the shorter way", facts("1 over 1 3", "2 over 3 2", "9 over 1 2"), 0, 1, 2, api.ReadBefore, p(9)},
	{"the first of two ways", facts("1 over 1 3", "9 over 3 2", "2 over 1 4", "3 over 4 2"), 0, 1, 2, api.ReadBefore, p(1, 9)},
	{"the first of two ways, which does not begin with the least Id", facts("9 over 1 3", "1 over 3 2", "2 over 1 4", "3 over 4 2"), 0, 1, 2, api.ReadBefore, p(1, 9)},
	{"the first of two Ids of one step", facts("5 over 1 2", "4 over 1 2"), 0, 1, 2, api.ReadBefore, p(4)},
	{"the shorter way on one day", facts("1 same 1 3", "2 same 3 2", "5 same 2 1"), 0, 1, 2, api.ReadSame, p(5)},
	{"the shorter way apart", facts("1 same 1 3", "2 apart 3 2", "5 apart 2 1"), 0, 1, 2, api.ReadApart, p(5)},
	{"the first way apart", facts("2 same 1 3", "1 apart 3 2", "3 same 1 4", "4 apart 4 2"), 0, 1, 2, api.ReadApart, p(1, 2)},
	{"a strict way is not the shortest one", facts("1 same 1 3", "2 same 3 4", "3 over 4 2"), 0, 1, 2, api.ReadBefore, p(1, 2, 3)},
	{"one that is taken back", facts("1 over 1 2", "2 void 1"), 0, 1, 2, api.ReadOpen, nil},
	{"one that is not known", list("1 5 1 over 1 2"), 4, 1, 2, api.ReadOpen, nil},
	{"one that is known since that day", list("1 5 1 over 1 2"), 5, 1, 2, api.ReadBefore, p(1)},
}

// H7, H8: what is read about two things, and why.
func TestReadAndWhy(t *testing.T) {
	for _, x := range readings {
		wants(t, "Read: "+x.name, of(reading.Read(4, x.l, x.known, x.a, x.b)), x.kind, api.OK)
		wants(t, "Why: "+x.name, of(reading.Why(4, x.l, x.known, x.a, x.b)), x.why, api.OK)
	}
	for _, x := range conflicts {
		if x.ids != nil {
			wants(t, "Read: "+x.name, of(reading.Read(x.n, x.l, x.known, x.n, 1)), api.ReadContrary, api.OK)
			wants(t, "Why: "+x.name, of(reading.Why(x.n, x.l, x.known, x.n, 1)), nil, api.ErrContrary)
		}
	}
	for _, x := range samples(21, 300, 5, 8) {
		m := x.model()
		for _, pair := range m.pairs(func(a, b int) bool { return true }) {
			wants(t, "Read", of(reading.Read(x.n, x.l, x.known, pair.A, pair.B)), m.read(pair.A, pair.B), api.OK)
			why, e := m.why(pair.A, pair.B), api.OK
			if m.isContrary() {
				why, e = nil, api.ErrContrary
			}
			wants(t, "Why", of(reading.Why(x.n, x.l, x.known, pair.A, pair.B)), why, e)
		}
	}
}

// towards returns observations that agree, of which several ways are as short: steps lead to greater things alone.
func (d *dice) towards(n int) []api.Observation {
	rank := func(thing int) int { return (thing + 1) / 2 }
	l := d.parallel(n, 1, 1, 2, 3)
	for i, x := range l {
		if rank(x.A) == rank(x.B) {
			l[i].Kind = api.ObSame
		} else if x.Kind == api.ObSame {
			l[i].Kind = api.ObApart
		}
		if l[i].Kind == api.ObOver && x.A > x.B {
			l[i].A, l[i].B = x.B, x.A
		}
	}
	return l
}

// H8: ways of many observations.
func TestLongWhys(t *testing.T) {
	d := &dice{22}
	for range 150 {
		n := 4 + d.roll(4)
		l := d.towards(n)
		for a := 1; a <= n; a++ {
			for b := 1; b <= n; b++ {
				if a == b {
					continue
				}
				kind, e := reading.Read(n, l, 0, a, b)
				wants(t, "Why", of(reading.Why(n, l, 0, a, b)), trails{l}.why(a, b, kind), e)
			}
		}
	}
}

// H8: what shows that a kind is read.
func TestCheckWhy(t *testing.T) {
	contrary := facts("1 over 1 2", "2 over 2 3", "3 over 3 1", "4 same 3 4", "5 apart 4 2")
	for _, x := range []struct {
		name  string
		l     []api.Observation
		known int
		a, b  int
		kind  uint8
		ids   []int
		want  bool
	}{
		{"the chapter's", chapterList(), 0, 1, 3, api.ReadBefore, p(1, 2), true},
		{"the chapter's, back", chapterList(), 0, 3, 1, api.ReadAfter, p(1, 2), true},
		{"another kind", chapterList(), 0, 1, 3, api.ReadAfter, p(1, 2), false},
		{"one left out", chapterList(), 0, 1, 3, api.ReadBefore, p(1), false},
		{"one that does not count yet", chapterList(), 0, 1, 4, api.ReadBefore, p(1, 2, 3), false},
		{"one that is taken back", chapterList(), 7, 4, 1, api.ReadBefore, p(4), false},
		{"the void as well", chapterList(), 7, 1, 4, api.ReadBefore, p(1, 2, 3, 5), false},
		{"more than needed", chapterList(), 5, 1, 3, api.ReadBefore, p(1, 2, 3), true},
		{"in another order", chapterList(), 0, 1, 3, api.ReadBefore, p(2, 1), false},
		{"one twice", chapterList(), 0, 1, 3, api.ReadBefore, p(1, 1, 2), false},
		{"Ids that are not there", chapterList(), 0, 1, 3, api.ReadBefore, p(1, 2, 9), false},
		{"wrong Ids", chapterList(), 0, 1, 3, api.ReadOpen, p(tiny, huge), false},
		{"open, by nothing", chapterList(), 0, 1, 3, api.ReadOpen, nil, true},
		{"open, by some", chapterList(), 0, 1, 3, api.ReadOpen, p(1), true},
		{"open, though it is not", chapterList(), 0, 1, 3, api.ReadOpen, p(1, 2), false},
		{"on one day", chapterList(), 0, 3, 2, api.ReadSame, p(2), true},
		{"some that agree of a list that does not", contrary, 0, 1, 3, api.ReadBefore, p(1, 2), true},
		{"others that agree of a list that does not", contrary, 0, 3, 1, api.ReadBefore, p(3), true},
		{"apart, of a list that does not agree", contrary, 0, 3, 2, api.ReadApart, p(4, 5), true},
		{"apart, where before is read", contrary, 0, 3, 2, api.ReadApart, p(1, 3, 4, 5), false},
		{"before, where apart is known too", contrary, 0, 3, 2, api.ReadBefore, p(1, 3, 4, 5), true},
		{"some that do not agree", contrary, 0, 1, 3, api.ReadBefore, p(1, 2, 3), false},
		{"some that do not agree, as contrary", contrary, 0, 1, 3, api.ReadContrary, p(1, 2, 3), false},
		{"contrary, by nothing", contrary, 0, 1, 3, api.ReadContrary, nil, false},
		{"no kind", contrary, 0, 1, 3, 6, nil, false},
		{"no kind at all", contrary, 0, 1, 3, 255, p(1), false},
	} {
		wants(t, "CheckWhy: "+x.name, of(reading.CheckWhy(4, x.l, x.known, x.a, x.b, x.kind, x.ids)), x.want, api.OK)
	}
	for _, x := range samples(23, 60, 4, 6) {
		m := x.model()
		for _, pair := range m.pairs(func(a, b int) bool { return true }) {
			for places := range m.whole() + 1 {
				worlds := m.possible(places)
				for kind := range uint8(7) {
					is := !worlds.isEmpty() && m.readIn(worlds, pair.A, pair.B) == kind
					wants(t, "CheckWhy", of(reading.CheckWhy(x.n, x.l, x.known, pair.A, pair.B, kind, m.ids(places))), is, api.OK)
				}
			}
		}
	}
}

// H9: classes, and what is certain and open.
func TestClassesCertainAndOpen(t *testing.T) {
	l := chapterList()
	none := pairs()
	for _, x := range []struct {
		name          string
		n             int
		l             []api.Observation
		known         int
		classes       [][]int
		certain, open []api.Pair
	}{
		{"no things", 0, nil, 0, nil, none, none},
		{"one thing", 1, nil, 0, [][]int{p(1)}, none, none},
		{"nothing seen", 3, nil, 0, [][]int{p(1), p(2), p(3)}, none, pairs(1, 2, 1, 3, 2, 3)},
		{"the chapter's", 4, l, 0, [][]int{p(1), p(2, 3), p(4)}, pairs(1, 2, 1, 3), pairs(1, 4, 2, 4, 3, 4)},
		{"the chapter's, later", 4, l, 7, [][]int{p(1), p(2, 3), p(4)}, pairs(1, 2, 1, 3, 1, 4, 2, 4, 3, 4), none},
		{"the greater thing first", 3, facts("1 over 3 1", "2 over 3 2"), 0, [][]int{p(1), p(2), p(3)}, pairs(3, 1, 3, 2), pairs(1, 2)},
		{"apart", 3, facts("1 apart 3 1", "2 same 3 2"), 0, [][]int{p(1), p(2, 3)}, none, pairs(1, 2, 1, 3)},
		{"classes in each other", 5, facts("1 same 5 1", "2 same 4 2", "3 same 2 5"), 0, [][]int{p(1, 2, 4, 5), p(3)}, none, pairs(1, 3, 2, 3, 3, 4, 3, 5)},
		{"classes that meet last", 6, facts("1 same 6 3", "2 same 5 2", "3 same 4 1", "4 same 6 5"), 0, [][]int{p(1, 4), p(2, 3, 5, 6)}, none, pairs(1, 2, 1, 3, 1, 5, 1, 6, 2, 4, 3, 4, 4, 5, 4, 6)},
		{"one class of 24", 24, sameRow(24, 1), 0, [][]int{from(1, 24)}, none, none},
	} {
		wants(t, "Classes: "+x.name, of(reading.Classes(x.n, x.l, x.known)), x.classes, api.OK)
		wants(t, "Certain: "+x.name, of(reading.Certain(x.n, x.l, x.known)), x.certain, api.OK)
		wants(t, "Open: "+x.name, of(reading.Open(x.n, x.l, x.known)), x.open, api.OK)
	}
	contrary := facts("1 over 1 2", "2 over 2 1", "3 same 3 1")
	wants(t, "Classes where there is a conflict", of(reading.Classes(4, contrary, 0)), [][]int{p(1, 3), p(2), p(4)}, api.OK)
	wants(t, "Certain where there is a conflict", of(reading.Certain(4, contrary, 0)), none, api.ErrContrary)
	wants(t, "Open where there is a conflict", of(reading.Open(4, contrary, 0)), none, api.ErrContrary)
	for _, x := range samples(24, 300, 5, 8) {
		m := x.model()
		certain, open, e := m.pairs(func(a, b int) bool { return m.read(a, b) == api.ReadBefore }), m.pairs(func(a, b int) bool {
			return a < b && (m.read(a, b) == api.ReadOpen || m.read(a, b) == api.ReadApart)
		}), api.OK
		if m.isContrary() {
			certain, open, e = nil, nil, api.ErrContrary
		}
		wants(t, "Classes", of(reading.Classes(x.n, x.l, x.known)), m.classes(), api.OK)
		wants(t, "Certain", of(reading.Certain(x.n, x.l, x.known)), certain, e)
		wants(t, "Open", of(reading.Open(x.n, x.l, x.known)), open, e)
	}
}

// classes returns the things that were laid on one day by observations of the kind ObSame alone, whatever the others say.
func (m model) classes() [][]int {
	worlds := m.all
	for i, x := range m.seen {
		if x.Kind == api.ObSame {
			worlds = worlds.and(m.trueIn[i])
		}
	}
	var out [][]int
	for a := 1; a <= m.n; a++ {
		at := slices.IndexFunc(out, func(class []int) bool { return m.readIn(worlds, class[0], a) == api.ReadSame })
		if at < 0 {
			out = append(out, p(a))
			continue
		}
		out[at] = append(out[at], a)
	}
	return out
}

// H16: what is read otherwise on a later day.
func TestLater(t *testing.T) {
	l := chapterList()
	all := pairs(1, 2, 1, 3, 1, 4, 2, 3, 2, 4, 3, 4)
	for _, x := range []struct {
		name         string
		n            int
		l            []api.Observation
		known, until int
		want         []api.Pair
	}{
		{"no things", 0, nil, 0, 9, nil},
		{"nothing seen", 4, nil, tiny, huge, nil},
		{"on one day", 4, l, 5, 5, nil},
		{"from the beginning on", 4, l, -1, 0, pairs(1, 2, 1, 3, 2, 3)},
		{"one more", 4, l, 0, 5, pairs(1, 4, 2, 4, 3, 4)},
		{"a conflict", 4, l, 5, 6, all},
		{"no conflict any more", 4, l, 6, 7, all},
		{"a conflict between the days", 4, l, 5, 7, nil},
		{"apart, then before", 2, list("1 0 1 apart 1 2", "2 3 1 over 2 1"), 0, 3, pairs(1, 2)},
		{"seen once more", 2, list("1 0 1 over 1 2", "2 3 1 over 1 2", "3 4 1 apart 1 2"), 0, 9, nil},
		{"taken back", 3, list("1 0 1 over 1 2", "2 0 1 over 2 3", "3 4 1 void 2"), 3, 4, pairs(1, 3, 2, 3)},
		{"a conflict on both days", 2, list("1 0 1 over 1 2", "2 0 1 over 2 1", "3 1 1 void 1", "4 1 1 same 1 2"), 0, 1, nil},
	} {
		wants(t, "Later: "+x.name, of(reading.Later(x.n, x.l, x.known, x.until)), x.want, api.OK)
	}
	for _, x := range samples(25, 200, 4, 10) {
		for until := x.known; until < x.known+6; until += 2 {
			wants(t, "Later", of(reading.Later(x.n, x.l, x.known, until)), x.model().changed(modelOf(x.n, x.l, until)), api.OK)
		}
		wants(t, "Later of an earlier day", of(reading.Later(x.n, x.l, x.known, x.known-1)), nil, api.ErrArg)
	}
}
