package reading_test

import (
	"slices"
	"testing"

	"giornata/api"
	"giornata/reading"
)

// anyWorlds are lists of which some are worlds of four things, and some are not.
var anyWorlds = []struct {
	world []int
	is    bool
}{
	{p(1, 2, 3, 4), true}, {p(4, 3, 2, 1), true}, {p(1, 1, 1, 1), true}, {p(2, 1, 2, 1), true}, {p(3, 1, 2, 2), true},
	{nil, false}, {p(1, 2, 3), false}, {p(1, 2, 3, 4, 5), false}, {p(1, 1, 1, 1, 1), false}, {p(0, 1, 2, 3), false}, {p(2, 2, 2, 2), false}, {p(1, 3, 1, 3), false}, {p(1, 2, 4, 2), false}, {p(0, 0, 0, 0), false}, {p(-1, 1, 2, 3), false}, {p(tiny, 1, 2, huge), false}, {p(1, 2, 3, 5), false},
}

// H10: what is a possible world, and what a world agrees with.
func TestCheckWorldAndAgrees(t *testing.T) {
	for _, x := range anyWorlds {
		e := api.ErrArg
		if x.is {
			e = api.OK
		}
		wants(t, "CheckWorld where nothing is seen", of(reading.CheckWorld(4, nil, 0, x.world)), x.is, api.OK)
		wants(t, "Agrees where nothing is seen", of(reading.Agrees(4, nil, 0, x.world)), nil, e)
	}
	l := chapterList()
	for _, x := range []struct {
		name  string
		n     int
		l     []api.Observation
		known int
		world []int
		ids   []int
	}{
		{"no things", 0, nil, 0, nil, nil},
		{"the chapter's", 4, l, 7, p(1, 2, 2, 3), nil},
		{"the chapter's, on one day with another", 4, l, 0, p(1, 2, 2, 2), nil},
		{"the chapter's, on different days", 4, l, 0, p(1, 2, 3, 3), p(2)},
		{"the chapter's, the other way round", 4, l, 5, p(2, 1, 1, 1), p(1, 3)},
		{"the chapter's, on one day", 4, l, 5, p(1, 1, 1, 1), p(1, 3)},
		{"the chapter's, with one that is taken back later", 4, l, 6, p(1, 2, 2, 3), p(4)},
		{"the chapter's, with all that count wrong", 4, l, 6, p(4, 3, 2, 1), p(1, 2, 3)},
		{"apart", 2, facts("1 apart 1 2"), 0, p(2, 1), nil},
		{"apart, on one day", 2, facts("1 apart 1 2"), 0, p(1, 1), p(1)},
		{"Ids in ascending order", 3, facts("9 over 2 1", "5 same 1 3", "7 over 3 2", "6 over 3 1"), 0, p(1, 2, 3), p(5, 6, 7, 9)},
		{"those that contradict each other", 2, facts("1 over 2 1", "2 over 1 2", "3 same 1 2"), 0, p(1, 2), p(1, 3)},
	} {
		wants(t, "Agrees: "+x.name, of(reading.Agrees(x.n, x.l, x.known, x.world)), x.ids, api.OK)
		wants(t, "CheckWorld: "+x.name, of(reading.CheckWorld(x.n, x.l, x.known, x.world)), x.ids == nil, api.OK)
	}
	for _, x := range samples(31, 300, 4, 7) {
		m := x.model()
		for i, world := range m.worlds {
			ids := m.ids(m.whole())
			for j, there := range m.trueIn {
				if there.has(i) {
					ids = slices.DeleteFunc(ids, func(id int) bool { return id == m.seen[j].Id })
				}
			}
			wants(t, "Agrees", of(reading.Agrees(x.n, x.l, x.known, world)), ids, api.OK)
			wants(t, "CheckWorld", of(reading.CheckWorld(x.n, x.l, x.known, world)), len(ids) == 0, api.OK)
		}
	}
}

// H11: the world in which each class has a day of its own.
func TestWorld(t *testing.T) {
	l := chapterList()
	for _, x := range []struct {
		name  string
		n     int
		l     []api.Observation
		known int
		world []int
	}{
		{"no things", 0, nil, 0, nil},
		{"one thing", 1, nil, 0, p(1)},
		{"nothing seen", 24, nil, 0, from(1, 24)},
		{"the chapter's", 4, l, 7, p(1, 2, 2, 3)},
		{"the chapter's, at first", 4, l, 0, p(1, 2, 2, 3)},
		{"before all days", 4, l, -1, p(1, 2, 3, 4)},
		{"the last one first", 3, facts("1 over 3 1"), 0, p(3, 1, 2)},
		{"a class waits for one of its things", 4, facts("1 same 1 3", "2 over 4 3"), 0, p(3, 1, 3, 2)},
		{"the class with the least thing, not the one that waited longest", 5, facts("1 over 5 1", "2 over 4 2"), 0, p(5, 3, 1, 2, 4)},
		{"a class that comes free goes before greater ones", 5, facts("1 over 3 1", "2 over 5 2"), 0, p(2, 5, 1, 3, 4)},
		{"the least thing of a class counts, not the greatest one", 4, facts("1 same 1 4", "2 over 3 2"), 0, p(1, 3, 2, 1)},
		{"apart has a day of its own anyway", 3, facts("1 apart 1 2"), 0, p(1, 2, 3)},
		{"a row of steps back", 24, shiftedSteps(24), 0, back(24)},
		{"one class", 24, sameRow(24, 1), 0, slices.Repeat(p(1), 24)},
		{"steps twice", 3, facts("1 over 2 1", "2 over 2 1", "3 same 2 3"), 0, p(2, 1, 1)},
	} {
		wants(t, "World: "+x.name, of(reading.World(x.n, x.l, x.known)), x.world, api.OK)
	}
	for _, x := range conflicts {
		if x.ids != nil {
			wants(t, "World: "+x.name, of(reading.World(x.n, x.l, x.known)), nil, api.ErrContrary)
		}
	}
	for _, x := range samples(32, 300, 5, 8) {
		m := x.model()
		world, e := m.world(), api.OK
		if m.isContrary() {
			world, e = nil, api.ErrContrary
		}
		wants(t, "World", of(reading.World(x.n, x.l, x.known)), world, e)
	}
}

// shiftedSteps returns steps from each of n things to the one before it.
func shiftedSteps(n int) []api.Observation {
	l := ringOf(n, 1)[:n-1]
	for i := range l {
		l[i].A, l[i].B = l[i].B, l[i].A
	}
	return l
}

// back returns the numbers from n down to 1.
func back(n int) []int {
	l := from(1, n)
	slices.Reverse(l)
	return l
}

// world lays one class after the other, each time the first one that no step leads to from those that are left.
func (m model) world() []int {
	world := make([]int, m.n)
	left := m.classes()
	for day := 1; len(left) > 0; day++ {
		at := slices.IndexFunc(left, func(class []int) bool {
			return !slices.ContainsFunc(m.seen, func(x api.Observation) bool {
				return x.Kind == api.ObOver && slices.Contains(class, x.B) && slices.Contains(slices.Concat(left...), x.A)
			})
		})
		if at < 0 {
			return nil
		}
		for _, thing := range left[at] {
			world[thing-1] = day
		}
		left = slices.Delete(left, at, at+1)
	}
	return world
}

// H11: how many possible worlds there are.
func TestWorlds(t *testing.T) {
	for n, count := range p(1, 1, 3, 13, 75, 541, 4683, 47293) {
		wants(t, "Worlds where nothing is seen", of(reading.Worlds(n, nil, 0)), count, api.OK)
	}
	l := chapterList()
	for _, x := range []struct {
		name  string
		n     int
		l     []api.Observation
		known int
		count int
		e     api.Errno
	}{
		{"the chapter's", 4, l, 0, 5, api.OK},
		{"the chapter's, later", 4, l, 5, 1, api.OK},
		{"a conflict", 4, l, 6, 0, api.OK},
		{"apart", 2, facts("1 apart 1 2"), 0, 2, api.OK},
		{"before", 2, facts("1 over 2 1"), 0, 1, api.OK},
		{"on one day", 2, facts("1 same 2 1"), 0, 1, api.OK},
		{"a row of 7", 7, ringOf(7, 1)[:6], 0, 1, api.OK},
		{"one class of 7", 7, sameRow(7, 1), 0, 1, api.OK},
		{"300 observations", 7, many(300), 0, 47293 - 4683, api.OK},
		{"8 things", 8, nil, 0, 0, api.ErrLimit},
		{"8 things in a row", 8, ringOf(8, 1)[:7], 0, 0, api.ErrLimit},
		{"8 things and a conflict", 8, ringOf(8, 1), 0, 0, api.ErrLimit},
		{"24 things", 24, nil, 0, 0, api.ErrLimit},
	} {
		wants(t, "Worlds: "+x.name, of(reading.Worlds(x.n, x.l, x.known)), x.count, x.e)
	}
	for _, x := range samples(33, 300, 5, 8) {
		wants(t, "Worlds", of(reading.Worlds(x.n, x.l, x.known)), len(x.model().possibleWorlds()), api.OK)
	}
}

// added returns the observation by which a kind is so of two things.
func added(a, b int, kind uint8) api.Observation {
	switch kind {
	case api.ReadBefore:
		return api.Observation{Kind: api.ObOver, A: a, B: b}
	case api.ReadAfter:
		return api.Observation{Kind: api.ObOver, A: b, B: a}
	}
	return api.Observation{Kind: api.ObSame, A: a, B: b}
}

// H12: a world for each kind.
func TestWitness(t *testing.T) {
	l := chapterList()
	for _, x := range []struct {
		name  string
		n     int
		l     []api.Observation
		known int
		a, b  int
		kind  uint8
		world []int
	}{
		{"the chapter's", 4, l, 0, 4, 1, api.ReadBefore, p(2, 3, 3, 1)},
		{"the chapter's, after", 4, l, 0, 1, 4, api.ReadAfter, p(2, 3, 3, 1)},
		{"the chapter's, the other way round", 4, l, 0, 4, 1, api.ReadAfter, p(1, 2, 2, 3)},
		{"the chapter's, on one day", 4, l, 0, 4, 1, api.ReadSame, p(1, 2, 2, 1)},
		{"what is known", 4, l, 0, 1, 2, api.ReadBefore, p(1, 2, 2, 3)},
		{"against what is known", 4, l, 0, 1, 2, api.ReadAfter, nil},
		{"on one day, against what is known", 4, l, 0, 1, 2, api.ReadSame, nil},
		{"on one day, as is known", 4, l, 0, 3, 2, api.ReadSame, p(1, 2, 2, 3)},
		{"before, though on one day", 4, l, 0, 3, 2, api.ReadBefore, nil},
		{"apart, on one day", 2, facts("1 apart 1 2"), 0, 1, 2, api.ReadSame, nil},
		{"apart, before", 2, facts("1 apart 1 2"), 0, 1, 2, api.ReadBefore, p(1, 2)},
		{"apart, after", 2, facts("1 apart 1 2"), 0, 1, 2, api.ReadAfter, p(2, 1)},
		{"where there is a conflict", 4, l, 6, 2, 3, api.ReadSame, nil},
		{"where there is a conflict, before", 4, l, 6, 1, 2, api.ReadBefore, nil},
		{"behind 300", 3, many(300), 0, 3, 1, api.ReadBefore, p(3, 1, 2)},
	} {
		wants(t, "Witness: "+x.name, of(reading.Witness(x.n, x.l, x.known, x.a, x.b, x.kind)), x.world, x.world != nil, api.OK)
	}
	for _, x := range samples(34, 200, 5, 8) {
		m := x.model()
		for _, pair := range m.pairs(func(a, b int) bool { return true }) {
			for kind := range uint8(7) {
				if kind == api.ReadOpen || kind > api.ReadSame {
					wants(t, "Witness of another kind", of(reading.Witness(x.n, x.l, x.known, pair.A, pair.B, kind)), nil, false, api.ErrArg)
					continue
				}
				more := m.with(added(pair.A, pair.B, kind))
				var world []int
				if !more.isContrary() {
					world = more.world()
				}
				wants(t, "Witness", of(reading.Witness(x.n, x.l, x.known, pair.A, pair.B, kind)), world, world != nil, api.OK)
			}
		}
	}
}

// H13: what may be false, and what one more observation settles.
func TestUsefulAndSettles(t *testing.T) {
	l := chapterList()
	for _, x := range []struct {
		name   string
		n      int
		l      []api.Observation
		known  int
		x      string
		useful bool
		pairs  []api.Pair
		e      api.Errno
	}{
		{"the chapter's", 4, l, 7, "over 1 4", false, nil, api.OK},
		{"the chapter's, at first", 4, l, 0, "over 3 4", true, pairs(1, 4, 2, 4, 3, 4), api.OK},
		{"the chapter's, of the class", 4, l, 0, "over 2 4", true, pairs(1, 4, 2, 4, 3, 4), api.OK},
		{"what is known", 4, l, 0, "over 1 2", false, nil, api.OK},
		{"what follows", 4, l, 0, "apart 3 1", false, nil, api.OK},
		{"what is known, back", 4, l, 0, "over 2 1", true, nil, api.ErrContrary},
		{"on one day, as is known", 4, l, 0, "same 3 2", false, nil, api.OK},
		{"on one day, against what is known", 4, l, 0, "same 3 1", true, nil, api.ErrContrary},
		{"apart, against what is known", 4, l, 0, "apart 3 2", true, nil, api.ErrContrary},
		{"before on one day", 4, l, 0, "over 3 2", true, nil, api.ErrContrary},
		{"on one day with a free thing", 4, l, 0, "same 4 3", true, pairs(1, 4, 2, 4, 3, 4), api.OK},
		{"apart from a free thing", 4, l, 0, "apart 4 3", true, pairs(2, 4, 3, 4), api.OK},
		{"an earlier thing", 4, l, 0, "over 4 1", true, pairs(1, 4, 2, 4, 3, 4), api.OK},
		{"a later thing alone", 4, l, 0, "over 1 4", true, pairs(1, 4), api.OK},
		{"apart twice", 2, facts("1 apart 1 2"), 0, "apart 2 1", false, nil, api.OK},
		{"apart, before", 2, facts("1 apart 1 2"), 0, "over 2 1", true, pairs(1, 2), api.OK},
		{"apart, on one day", 2, facts("1 apart 1 2"), 0, "same 1 2", true, nil, api.ErrContrary},
		{"where there is a conflict", 4, l, 6, "over 1 2", false, nil, api.ErrContrary},
		{"where there is a conflict of others", 4, facts("1 over 1 2", "2 over 2 1"), 0, "over 3 4", false, nil, api.ErrContrary},
		{"nothing seen", 2, nil, 0, "same 2 1", true, pairs(1, 2), api.OK},
		{"two rows that are joined", 4, facts("1 over 1 2", "2 over 3 4"), 0, "over 2 3", true, pairs(1, 3, 1, 4, 2, 3, 2, 4), api.OK},
		{"behind 300", 3, many(300), 0, "over 3 1", true, pairs(1, 3), api.OK},
	} {
		for _, more := range []api.Observation{{}, {Id: 1, Known: 0, Reader: 1}, {Id: -7, Known: huge, Reader: tiny}} {
			more.Kind, more.A, more.B = fact(x.x).Kind, fact(x.x).A, fact(x.x).B
			wants(t, "Useful: "+x.name, of(reading.Useful(x.n, x.l, x.known, more)), x.useful, api.OK)
			wants(t, "Settles: "+x.name, of(reading.Settles(x.n, x.l, x.known, more)), x.pairs, x.e)
		}
	}
	for _, x := range samples(35, 200, 4, 8) {
		m := x.model()
		for _, pair := range m.pairs(func(a, b int) bool { return true }) {
			for kind := range uint8(3) {
				more := api.Observation{Kind: kind + 1, A: pair.A, B: pair.B}
				useful := !m.possible(m.whole()).isPartOf(m.worldsWith(more))
				wants(t, "Useful", of(reading.Useful(x.n, x.l, x.known, more)), useful, api.OK)
				longer, e := m.with(more), api.OK
				settled := m.changed(longer)
				if longer.isContrary() {
					settled, e = nil, api.ErrContrary
				}
				wants(t, "Settles", of(reading.Settles(x.n, x.l, x.known, more)), settled, e)
			}
		}
	}
}

// H13: what is no new observation.
func TestUsefulErrors(t *testing.T) {
	contrary := facts("1 over 1 2", "2 over 2 1")
	for _, x := range []api.Observation{
		{}, {Id: 1, Reader: 1, A: 1, B: 2}, {Kind: api.ObVoid, Of: 1}, {Id: 9, Reader: 1, Kind: api.ObVoid, Of: 1}, {Kind: api.ObVoid, A: 1, B: 2}, {Kind: 5, A: 1, B: 2}, {Kind: 255, A: 1, B: 2},
		{Kind: api.ObOver, A: 1, B: 1}, {Kind: api.ObOver, A: 0, B: 1}, {Kind: api.ObSame, A: 1, B: 0}, {Kind: api.ObSame, A: 5, B: 1}, {Kind: api.ObApart, A: 1, B: 5}, {Kind: api.ObApart, A: -1, B: 1}, {Kind: api.ObOver, A: huge, B: tiny},
		{Kind: api.ObOver, A: 1, B: 2, Of: 1}, {Kind: api.ObSame, A: 1, B: 2, Of: -1}, {Kind: api.ObApart, A: 1, B: 2, Of: huge},
	} {
		for _, l := range [][]api.Observation{chapterList()[:2], contrary} {
			wants(t, "Useful of "+spelt(x), of(reading.Useful(4, l, 0, x)), false, api.ErrArg)
			wants(t, "Settles of "+spelt(x), of(reading.Settles(4, l, 0, x)), nil, api.ErrArg)
		}
	}
}
