package reading_test

import (
	"slices"
	"testing"

	"giornata/api"
	"giornata/reading"
)

// allPairs are the pairs of different ones of n things, in both orders.
func allPairs(n int) []api.Pair {
	return (&space{n: n}).pairs(func(a, b int) bool { return true })
}

// holds reports whether what is read about two things is so in a world.
func holds(kind uint8, world []int, x api.Pair) bool {
	a, b := world[x.A-1], world[x.B-1]
	switch kind {
	case api.ReadBefore:
		return a < b
	case api.ReadAfter:
		return a > b
	case api.ReadSame:
		return a == b
	case api.ReadApart:
		return a != b
	}
	return kind == api.ReadOpen
}

func read(t *testing.T, n int, l []api.Observation, known int, x api.Pair) uint8 {
	t.Helper()
	kind, e := reading.Read(n, l, known, x.A, x.B)
	want(t, "the error of Read", e, api.OK)
	return kind
}

// P8.1 (T7): what is certain is so in each possible world, and what is open has a world of each kind.
func TestCertain(t *testing.T) {
	for _, x := range samples(51, 200, 5, 8) {
		m := x.model()
		worlds := m.possibleWorlds()
		for _, pair := range allPairs(x.n) {
			kind := read(t, x.n, x.l, x.known, pair)
			want(t, "contrary exactly if no world is possible", kind == api.ReadContrary, len(worlds) == 0)
			for _, world := range worlds {
				want(t, "what is read is so in each possible world", holds(kind, world, pair), true)
			}
		}
	}
	d := &dice{52}
	for range 150 {
		n := d.roll(25)
		l, _ := d.seen(n, 60)
		for _, pair := range allPairs(n) {
			kind := read(t, n, l, 0, pair)
			for _, other := range []uint8{api.ReadBefore, api.ReadAfter, api.ReadSame} {
				world, is, e := reading.Witness(n, l, 0, pair.A, pair.B, other)
				possible := kind == other || kind == api.ReadOpen || kind == api.ReadApart && other != api.ReadSame
				wants(t, "Witness of a kind that is possible", of(is, e), possible, api.OK)
				if is {
					want(t, "the kind in the world of Witness", holds(other, world, pair), true)
				}
			}
		}
	}
}

// P8.2 (T7): the world of what was observed is possible, whatever is observed later.
func TestTrueOrder(t *testing.T) {
	d := &dice{53}
	for range 300 {
		n := d.roll(25)
		l, world := d.seen(n, 80)
		for known := range len(l) + 1 {
			if known%7 == 0 {
				wants(t, "CheckWorld of the true order", of(reading.CheckWorld(n, l[:known], 0, world)), true, api.OK)
			}
		}
		for _, pair := range allPairs(n) {
			want(t, "what is read is true of the true order", holds(read(t, n, l, 0, pair), world, pair), true)
		}
	}
}

// P8.3: one more observation only narrows.
func TestNarrowing(t *testing.T) {
	for i, x := range samples(54, 250, 4, 7) {
		if x.n < 2 {
			continue
		}
		d := &dice{uint64(i)}
		next := d.fact(x.n)
		next.Id, next.Known, next.Reader = 999, 90, 1
		l, e := reading.Append(x.n, x.l, next)
		want(t, "the error of Append", e, api.OK)
		before, after := modelOf(x.n, x.l, 90), modelOf(x.n, l, 90)
		for _, world := range before.worlds {
			was, e := reading.CheckWorld(x.n, x.l, 90, world)
			want(t, "the error of CheckWorld", e, api.OK)
			is, e := reading.CheckWorld(x.n, l, 90, world)
			want(t, "the error of CheckWorld", e, api.OK)
			want(t, "a world becomes possible", is && !was, false)
		}
		for _, pair := range allPairs(x.n) {
			was, is := read(t, x.n, x.l, 90, pair), read(t, x.n, l, 90, pair)
			allowed := map[uint8][]uint8{api.ReadOpen: {0, 1, 2, 3, 4}, api.ReadApart: {api.ReadApart, api.ReadBefore, api.ReadAfter}}[was]
			want(t, "what is read is narrowed", is == was || is == api.ReadContrary || slices.Contains(allowed, is), true)
		}
		want(t, "as the models", len(after.possibleWorlds()) <= len(before.possibleWorlds()), true)
	}
}

// P8.4: conflicts, agreement and worlds.
func TestConflictsAndAgreement(t *testing.T) {
	d := &dice{55}
	for range 400 {
		n := d.roll(25)
		l := d.list(n, 40)
		if d.roll(2) == 0 {
			l, _ = d.seen(n, 60)
		}
		known := d.roll(40)
		ids, is, e := reading.Conflict(n, l, known)
		want(t, "the error of Conflict", e, api.OK)
		wants(t, "Consistent", of(reading.Consistent(n, l, known)), !is, api.OK)
		world, e := reading.World(n, l, known)
		want(t, "World where there is a conflict", e == api.ErrContrary, is)
		wants(t, "CheckConflict of Conflict", of(reading.CheckConflict(n, l, known, ids)), is, api.OK)
		if is {
			want(t, "the things of a conflict are on a way round", len(ids) >= 2 && len(ids) <= n && slices.IsSorted(ids), true)
			for i := range ids {
				fewer := slices.Delete(slices.Clone(ids), i, i+1)
				wants(t, "CheckConflict without one", of(reading.CheckConflict(n, l, known, fewer)), false, api.OK)
			}
			continue
		}
		want(t, "the error of World", e, api.OK)
		wants(t, "CheckWorld of World", of(reading.CheckWorld(n, l, known, world)), true, api.OK)
	}
}

// P8.5: without the observations of Mend the others agree, and no shorter list does it.
func TestMending(t *testing.T) {
	d := &dice{56}
	for range 150 {
		n := 2 + d.roll(5)
		l := d.list(n, 12)
		known := d.roll(14)
		ids, e := reading.Mend(n, l, known)
		want(t, "the error of Mend", e, api.OK)
		agree, e := reading.Consistent(n, l, known)
		want(t, "the error of Consistent", e, api.OK)
		want(t, "Mend is empty exactly if all agree", len(ids) == 0, agree)
		rest := slices.DeleteFunc(reading.Counting(l, known), func(x api.Observation) bool { return slices.Contains(ids, x.Id) })
		wants(t, "Consistent without Mend", of(reading.Consistent(n, rest, known)), true, api.OK)
		want(t, "the list of Mend ascends", slices.IsSorted(ids), true)
	}
}

// P8.6: what shows a kind.
func TestReasons(t *testing.T) {
	d := &dice{57}
	for range 100 {
		n := 2 + d.roll(23)
		l, _ := d.seen(n, 60)
		for _, pair := range allPairs(n) {
			kind := read(t, n, l, 0, pair)
			ids, e := reading.Why(n, l, 0, pair.A, pair.B)
			want(t, "the error of Why", e, api.OK)
			wants(t, "CheckWhy of Why", of(reading.CheckWhy(n, l, 0, pair.A, pair.B, kind, ids)), true, api.OK)
			want(t, "Why is empty exactly if it is open", len(ids) == 0, kind == api.ReadOpen)
			for i := range ids {
				fewer := slices.Delete(slices.Clone(ids), i, i+1)
				wants(t, "CheckWhy without one", of(reading.CheckWhy(n, l, 0, pair.A, pair.B, kind, fewer)), false, api.OK)
			}
		}
	}
	for _, x := range samples(58, 60, 4, 6) {
		m := x.model()
		for _, pair := range allPairs(x.n) {
			for places := range m.whole() + 1 {
				for _, kind := range []uint8{api.ReadBefore, api.ReadAfter, api.ReadSame, api.ReadApart} {
					is, e := reading.CheckWhy(x.n, x.l, x.known, pair.A, pair.B, kind, m.ids(places))
					want(t, "the error of CheckWhy", e, api.OK)
					if is && !m.isContrary() {
						got := read(t, x.n, x.l, x.known, pair)
						want(t, "what is accepted is read", got == kind || kind == api.ReadApart && (got == api.ReadBefore || got == api.ReadAfter), true)
					}
				}
			}
		}
	}
}

// P8.7: possible worlds are checked, and there is none exactly if there is a conflict.
func TestPossibleWorlds(t *testing.T) {
	d := &dice{59}
	for range 200 {
		n := d.roll(8)
		l := d.list(n, 12)
		known := d.roll(14)
		count, e := reading.Worlds(n, l, known)
		want(t, "the error of Worlds", e, api.OK)
		_, is, e := reading.Conflict(n, l, known)
		want(t, "the error of Conflict", e, api.OK)
		want(t, "no world exactly if there is a conflict", count == 0, is)
		for _, pair := range allPairs(n) {
			for _, kind := range []uint8{api.ReadBefore, api.ReadAfter, api.ReadSame} {
				world, is, e := reading.Witness(n, l, known, pair.A, pair.B, kind)
				wants(t, "CheckWorld of Witness", of(reading.CheckWorld(n, l, known, world)), is, e)
			}
		}
	}
}

// P8.9: an observation is not useful exactly if it is true in all possible worlds; then it settles nothing.
func TestUse(t *testing.T) {
	for _, x := range samples(60, 150, 5, 8) {
		m := x.model()
		worlds := m.possibleWorlds()
		for _, pair := range allPairs(x.n) {
			for kind := range uint8(3) {
				more := api.Observation{Kind: kind + 1, A: pair.A, B: pair.B}
				isFalse := func(world []int) bool {
					a, b := world[pair.A-1], world[pair.B-1]
					return kind == 0 && a >= b || kind == 1 && a != b || kind == 2 && a == b
				}
				useful, e := reading.Useful(x.n, x.l, x.known, more)
				wants(t, "Useful", of(useful, e), slices.ContainsFunc(worlds, isFalse), api.OK)
				settled, e := reading.Settles(x.n, x.l, x.known, more)
				if e == api.OK {
					want(t, "it settles something exactly if it is useful", len(settled) > 0, useful)
				}
			}
		}
	}
}

// P8.9: of many things, of which nobody can list all worlds.
func TestUseOfMany(t *testing.T) {
	d := &dice{61}
	for range 60 {
		n := 2 + d.roll(23)
		l, _ := d.seen(n, 60)
		for range 20 {
			x := d.fact(n)
			kind := read(t, n, l, 0, api.Pair{A: x.A, B: x.B})
			known := map[uint8][]uint8{api.ObOver: {api.ReadBefore}, api.ObSame: {api.ReadSame}, api.ObApart: {api.ReadBefore, api.ReadAfter, api.ReadApart}}
			wants(t, "Useful", of(reading.Useful(n, l, 0, x)), !slices.Contains(known[x.Kind], kind), api.OK)
		}
	}
}
