package reading_test

import (
	"cmp"
	"slices"

	"giornata/api"
)

// bits are some of the worlds of a space.
type bits []uint64

func (b bits) set(i int) { b[i/64] |= 1 << (i % 64) }

func (b bits) has(i int) bool { return b[i/64]&(1<<(i%64)) != 0 }

func (b bits) isEmpty() bool {
	return !slices.ContainsFunc(b, func(x uint64) bool { return x != 0 })
}

func (b bits) and(c bits) bits {
	out := slices.Clone(b)
	for i := range out {
		out[i] &= c[i]
	}
	return out
}

func (b bits) without(c bits) bits {
	out := slices.Clone(b)
	for i := range out {
		out[i] &^= c[i]
	}
	return out
}

func (b bits) isPartOf(c bits) bool { return b.without(c).isEmpty() }

// space is all worlds of a few things, and in which of them one thing was laid before another one, or on the same day.
type space struct {
	n            int
	worlds       [][]int
	all          bits
	before, same map[api.Pair]bits
}

// spaces are those that were asked for.
var spaces = map[int]*space{}

func spaceOf(n int) *space {
	if spaces[n] != nil {
		return spaces[n]
	}
	s := &space{n: n, worlds: worldsOf(n), before: map[api.Pair]bits{}, same: map[api.Pair]bits{}}
	size := len(s.worlds)/64 + 1
	s.all = make(bits, size)
	for i := range s.worlds {
		s.all.set(i)
	}
	for a := 1; a <= n; a++ {
		for b := 1; b <= n; b++ {
			pair := api.Pair{A: a, B: b}
			s.before[pair], s.same[pair] = make(bits, size), make(bits, size)
			for i, world := range s.worlds {
				if world[a-1] < world[b-1] {
					s.before[pair].set(i)
				}
				if world[a-1] == world[b-1] {
					s.same[pair].set(i)
				}
			}
		}
	}
	spaces[n] = s
	return s
}

// worldsOf returns all worlds of n things, in order: all lists of day numbers that occur without a gap.
func worldsOf(n int) [][]int {
	out := [][]int{nil}
	for range n {
		var longer [][]int
		for _, l := range out {
			for day := 1; day <= n; day++ {
				longer = append(longer, slices.Concat(l, []int{day}))
			}
		}
		out = longer
	}
	return slices.DeleteFunc(out, func(l []int) bool { return !areWithoutGap(l) })
}

func areWithoutGap(l []int) bool {
	for _, day := range l {
		if day < 1 || day > 1 && !slices.Contains(l, day-1) {
			return false
		}
	}
	return true
}

// model is what observations say by the worlds in which they are true alone.
type model struct {
	*space
	seen   []api.Observation
	trueIn []bits
}

// modelOf returns the model of a list on a day. Those that count are in the order of their Ids.
func modelOf(n int, l []api.Observation, known int) model {
	m := model{space: spaceOf(n), seen: counted(l, known)}
	slices.SortFunc(m.seen, func(x, y api.Observation) int { return x.Id - y.Id })
	for _, x := range m.seen {
		m.trueIn = append(m.trueIn, m.worldsWith(x))
	}
	return m
}

// counted returns the observations that count, by the words of the chapter.
func counted(l []api.Observation, known int) []api.Observation {
	var out []api.Observation
	for _, x := range l {
		isTakenBack := slices.ContainsFunc(l, func(v api.Observation) bool { return v.Kind == 4 && v.Known <= known && v.Of == x.Id })
		if x.Kind >= 1 && x.Kind <= 3 && x.Known <= known && !isTakenBack {
			out = append(out, x)
		}
	}
	return out
}

// worldsWith returns the worlds in which an observation is true.
func (s *space) worldsWith(x api.Observation) bits {
	pair := api.Pair{A: x.A, B: x.B}
	switch x.Kind {
	case api.ObOver:
		return s.before[pair]
	case api.ObSame:
		return s.same[pair]
	}
	return s.all.without(s.same[pair])
}

// whole has a bit for each observation.
func (m model) whole() int { return 1<<len(m.seen) - 1 }

// possible returns the worlds in which those observations are true whose places are bits of a number.
func (m model) possible(places int) bits {
	out := m.all
	for i, worlds := range m.trueIn {
		if places&(1<<i) != 0 {
			out = out.and(worlds)
		}
	}
	return out
}

// possibleWorlds returns the worlds in which all observations are true, in order.
func (m model) possibleWorlds() [][]int {
	var out [][]int
	is := m.possible(m.whole())
	for i, world := range m.worlds {
		if is.has(i) {
			out = append(out, world)
		}
	}
	return out
}

func (m model) isContrary() bool { return m.possible(m.whole()).isEmpty() }

// readIn returns what is so of two things in each of some worlds.
func (s *space) readIn(worlds bits, a, b int) uint8 {
	there, back := api.Pair{A: a, B: b}, api.Pair{A: b, B: a}
	switch {
	case worlds.isEmpty():
		return api.ReadContrary
	case worlds.isPartOf(s.before[there]):
		return api.ReadBefore
	case worlds.isPartOf(s.before[back]):
		return api.ReadAfter
	case worlds.isPartOf(s.same[there]):
		return api.ReadSame
	case worlds.and(s.same[there]).isEmpty():
		return api.ReadApart
	}
	return api.ReadOpen
}

func (m model) read(a, b int) uint8 { return m.readIn(m.possible(m.whole()), a, b) }

// with returns the model with one more observation.
func (m model) with(x api.Observation) model {
	m.seen, m.trueIn = slices.Concat(m.seen, []api.Observation{x}), slices.Concat(m.trueIn, []bits{m.worldsWith(x)})
	return m
}

// pairs returns the pairs of things that are wanted, in order.
func (s *space) pairs(isWanted func(a, b int) bool) []api.Pair {
	var out []api.Pair
	for a := 1; a <= s.n; a++ {
		for b := 1; b <= s.n; b++ {
			if a != b && isWanted(a, b) {
				out = append(out, api.Pair{A: a, B: b})
			}
		}
	}
	return out
}

// changed returns the pairs, the lesser thing first, about which something else is read in another model.
func (m model) changed(other model) []api.Pair {
	return m.pairs(func(a, b int) bool { return a < b && m.read(a, b) != other.read(a, b) })
}

// ids returns the Ids of the observations whose places are bits of a number.
func (m model) ids(places int) []int {
	var out []int
	for i, x := range m.seen {
		if places&(1<<i) != 0 {
			out = append(out, x.Id)
		}
	}
	return out
}

// first returns the first list of Ids of which something is so, and whether there is one.
func (m model) first(is func(places int) bool) ([]int, bool) {
	var best []int
	found := false
	for places := range m.whole() + 1 {
		if ids := m.ids(places); (!found || compareLists(ids, best) < 0) && is(places) {
			best, found = ids, true
		}
	}
	return best, found
}

func (m model) conflict() ([]int, bool) {
	return m.first(func(places int) bool { return m.possible(places).isEmpty() })
}

func (m model) mend() []int {
	ids, _ := m.first(func(places int) bool { return !m.possible(m.whole() &^ places).isEmpty() })
	return ids
}

func (m model) why(a, b int) []int {
	read := m.read(a, b)
	ids, _ := m.first(func(places int) bool { return m.readIn(m.possible(places), a, b) == read })
	return ids
}

// compareLists compares lists by their length, then element by element.
func compareLists(l, m []int) int { return cmp.Or(cmp.Compare(len(l), len(m)), slices.Compare(l, m)) }

// trails is all that can be seen of longer ways: those that use no observation twice.
type trails struct{ seen []api.Observation }

// shortest returns the first one of the shortest lists of Ids of a way from a thing to another one, or to itself, that has a number of observations of the kind mark from least to most, and otherwise ObSame alone.
func (w trails) shortest(from, to int, mark uint8, least, most int) []int {
	for length := 1; length <= len(w.seen); length++ {
		var best []int
		var follow func(at, marks int, used []int)
		follow = func(at, marks int, used []int) {
			if len(used) == length {
				ids := slices.Sorted(slices.Values(used))
				if at == to && marks >= least && (best == nil || slices.Compare(ids, best) < 0) {
					best = ids
				}
				return
			}
			for _, x := range w.seen {
				next := marks
				if x.Kind == mark {
					next++
				} else if x.Kind != api.ObSame {
					continue
				}
				if next > most || slices.Contains(used, x.Id) {
					continue
				}
				if x.A == at {
					follow(x.B, next, slices.Concat(used, []int{x.Id}))
				} else if x.B == at && x.Kind != api.ObOver {
					follow(x.A, next, slices.Concat(used, []int{x.Id}))
				}
			}
		}
		follow(from, 0, nil)
		if best != nil {
			return best
		}
	}
	return nil
}

// conflict returns the first list of Ids of a strict way from one of n things to itself, or of an ObApart with a way of ObSame alone.
func (w trails) conflict(n int) []int {
	var first []int
	for thing := 1; thing <= n; thing++ {
		for _, ids := range [][]int{w.shortest(thing, thing, api.ObOver, 1, len(w.seen)), w.shortest(thing, thing, api.ObApart, 1, 1)} {
			if ids != nil && (first == nil || compareLists(ids, first) < 0) {
				first = ids
			}
		}
	}
	return first
}

// why returns the first list of Ids from which a kind is read, if it is so.
func (w trails) why(a, b int, kind uint8) []int {
	switch kind {
	case api.ReadBefore:
		return w.shortest(a, b, api.ObOver, 1, len(w.seen))
	case api.ReadAfter:
		return w.shortest(b, a, api.ObOver, 1, len(w.seen))
	case api.ReadSame:
		return w.shortest(a, b, api.ObSame, 1, len(w.seen))
	case api.ReadApart:
		return w.shortest(a, b, api.ObApart, 1, 1)
	}
	return nil
}
