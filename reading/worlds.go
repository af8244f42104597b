package reading

import (
	"iter"
	"slices"

	"giornata/api"
)

// CheckWorld returns whether a list is a world, and possible.
func CheckWorld(n int, l []api.Observation, known int, world []int) (bool, api.Errno) {
	w, e := open(n, l, known)
	if e != api.OK {
		return false, e
	}
	return isWorld(n, world) && w.isPossible(world), api.OK
}

// Agrees returns the Ids of the observations that are not true in a world.
func Agrees(n int, l []api.Observation, known int, world []int) ([]int, api.Errno) {
	w, e := open(n, l, known)
	if e != api.OK {
		return nil, e
	}
	if !isWorld(n, world) {
		return nil, api.ErrArg
	}
	isTrueThere := func(x api.Observation) bool { return isTrue(x, world) }
	return idsOf(slices.DeleteFunc(w.seen, isTrueThere)), api.OK
}

// World returns the possible world in which each class has a day of its own, those with lesser things as early as possible.
func World(n int, l []api.Observation, known int) ([]int, api.Errno) {
	w, e := openAgreeing(n, l, known)
	if e != api.OK {
		return nil, e
	}
	return w.world(), api.OK
}

// Worlds returns how many possible worlds there are.
func Worlds(n int, l []api.Observation, known int) (int, api.Errno) {
	w, e := open(n, l, known)
	if e != api.OK {
		return 0, e
	}
	if n > api.MaxWorlds {
		return 0, api.ErrLimit
	}
	count := 0
	for range w.worlds {
		count++
	}
	return count, api.OK
}

// Witness returns a possible world in which a kind is so of two things, if there is one.
func Witness(n int, l []api.Observation, known, a, b int, kind uint8) ([]int, bool, api.Errno) {
	w, e := openThings(n, l, known, a, b)
	if e != api.OK {
		return nil, false, e
	}
	if kind != api.ReadBefore && kind != api.ReadAfter && kind != api.ReadSame {
		return nil, false, api.ErrArg
	}
	world, is := w.witness(a, b, kind)
	return world, is, api.OK
}

// Useful returns whether an observation is not true in some possible world.
func Useful(n int, l []api.Observation, known int, x api.Observation) (bool, api.Errno) {
	w, e := openNew(n, l, known, x)
	if e != api.OK {
		return false, e
	}
	for world := range w.witnesses(x.A, x.B) {
		if !isTrue(x, world) {
			return true, api.OK
		}
	}
	return false, api.OK
}

// Settles returns the pairs of things, the lesser one first, about which something else is read if one more observation counts.
func Settles(n int, l []api.Observation, known int, x api.Observation) ([]api.Pair, api.Errno) {
	w, e := openNew(n, l, known, x)
	if e != api.OK {
		return nil, e
	}
	// Observations that contradict each other do so with one more as well.
	more := w.with(x)
	if more.contrary {
		return nil, api.ErrContrary
	}
	return w.changed(more), api.OK
}

// openNew returns what a list of observations says on a day, to be asked about one more.
func openNew(n int, l []api.Observation, known int, x api.Observation) (wall, api.Errno) {
	w, e := open(n, l, known)
	if e != api.OK {
		return wall{}, e
	}
	if !saysOfThings(n, x) {
		return wall{}, api.ErrArg
	}
	return w, api.OK
}

// world returns the world in which each class has a day of its own, if the observations agree.
func (w wall) world() []int {
	var days [api.MaxThings + 1]int
	day := 0
	for _, patch := range w.first {
		if thing := patch + 1; w.least[thing] == thing {
			day++
			days[thing] = day
		}
	}
	var out []int
	for thing := 1; thing <= w.n; thing++ {
		out = append(out, days[w.least[thing]])
	}
	return out
}

// worlds yields all possible worlds.
func (w wall) worlds(yield func(world []int) bool) {
	var extend func(world []int) bool
	extend = func(world []int) bool {
		if !w.isPossible(world) {
			return true
		}
		if len(world) == w.n {
			return yield(world)
		}
		for longer := range extensions(world) {
			if !extend(longer) {
				return false
			}
		}
		return true
	}
	extend(nil)
}

// isPossible reports whether the observations of those things are true that a world has, which may be the first few alone.
func (w wall) isPossible(world []int) bool {
	return !slices.ContainsFunc(w.seen, func(x api.Observation) bool {
		return max(x.A, x.B) <= len(world) && !isTrue(x, world)
	})
}

// extensions yields the worlds of one thing more in which the others stay as they are to each other: it is laid on the day of some of them, or on a day between theirs.
func extensions(world []int) iter.Seq[[]int] {
	return func(yield func([]int) bool) {
		// Days are doubled, so that there are numbers between them; then Ranks makes days of them.
		last := 0
		var doubled []int
		for _, day := range world {
			doubled = append(doubled, 2*day)
			last = max(last, 2*day)
		}
		for day := range last + 2 {
			if day > 0 && !yield(ranks(append(doubled, day))) {
				return
			}
		}
	}
}

// witness returns the world if one more observation counts, by which a kind is so of two things; false if that contradicts the others.
func (w wall) witness(a, b int, kind uint8) ([]int, bool) {
	x := api.Observation{Kind: api.ObOver, A: a, B: b}
	switch kind {
	case api.ReadAfter:
		x.A, x.B = b, a
	case api.ReadSame:
		x.Kind = api.ObSame
	}
	more := w.with(x)
	if more.contrary {
		return nil, false
	}
	return more.world(), true
}

// witnesses yields a possible world for each way in which the days of two things can be to each other.
func (w wall) witnesses(a, b int) iter.Seq[[]int] {
	return func(yield func([]int) bool) {
		for _, kind := range []uint8{api.ReadBefore, api.ReadAfter, api.ReadSame} {
			if world, is := w.witness(a, b, kind); is && !yield(world) {
				return
			}
		}
	}
}

func isTrue(x api.Observation, world []int) bool {
	a, b := world[x.A-1], world[x.B-1]
	switch x.Kind {
	case api.ObOver:
		return a < b
	case api.ObSame:
		return a == b
	}
	return a != b
}

// isWorld reports whether a list is a world of n things.
func isWorld(n int, l []int) bool { return len(l) == n && slices.Equal(l, ranks(l)) }
