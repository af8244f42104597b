package reading

import (
	"cmp"
	"slices"

	"giornata/api"
	"giornata/order"
)

// wall is what observations that count say of n things.
type wall struct {
	n    int
	seen []api.Observation
	// least has the classes. The least thing of each one, less 1, is its patch in steps; the other patches are free.
	least joined
	steps api.Order
	// first is the first order of steps, if there is one.
	first []int
	// apart has the least things of classes that are known to have different days, the lesser one first.
	apart    map[api.Pair]bool
	contrary bool
}

// wallOf returns what observations that count say of n things.
func wallOf(n int, seen []api.Observation) wall {
	w := wall{n: n, seen: seen, least: joinedBy(seen), apart: map[api.Pair]bool{}}
	var arcs []api.Pair
	for _, x := range seen {
		a, b := w.least[x.A], w.least[x.B]
		switch {
		case x.Kind == api.ObSame:
			continue
		case a == b:
			w.contrary = true
		case x.Kind == api.ObOver:
			arcs = append(arcs, api.Pair{A: a - 1, B: b - 1})
		default:
			w.apart[unordered(a, b)] = true
		}
	}
	slices.SortFunc(arcs, comparePairs)
	w.steps = api.Order{N: n, Arcs: slices.Compact(arcs)}
	first, e := order.First(w.steps)
	w.first, w.contrary = first, w.contrary || e != api.OK
	return w
}

// open returns what a list of observations says on a day.
func open(n int, l []api.Observation, known int) (wall, api.Errno) {
	if _, e := Check(n, l); e != api.OK {
		return wall{}, e
	}
	return wallOf(n, Counting(l, known)), api.OK
}

// openThings returns what a list of observations says on a day, to be asked about two things.
func openThings(n int, l []api.Observation, known, a, b int) (wall, api.Errno) {
	w, e := open(n, l, known)
	if e != api.OK {
		return wall{}, e
	}
	if !areThings(n, a, b) {
		return wall{}, api.ErrArg
	}
	return w, api.OK
}

// openAgreeing returns what a list of observations says on a day on which they agree.
func openAgreeing(n int, l []api.Observation, known int) (wall, api.Errno) {
	w, e := open(n, l, known)
	if e != api.OK {
		return wall{}, e
	}
	if w.contrary {
		return wall{}, api.ErrContrary
	}
	return w, api.OK
}

// with returns what is said if one more observation counts.
func (w wall) with(x api.Observation) wall {
	return wallOf(w.n, slices.Concat(w.seen, []api.Observation{x}))
}

// chosen returns the observations that a list of Ids names; false if it is no list of Ids of observations that count.
func (w wall) chosen(ids []int) ([]api.Observation, bool) {
	var out []api.Observation
	for i, id := range ids {
		at := slices.IndexFunc(w.seen, func(x api.Observation) bool { return x.Id == id })
		if at < 0 || i > 0 && ids[i-1] >= id {
			return nil, false
		}
		out = append(out, w.seen[at])
	}
	return out, true
}

// idsOf returns the list of the Ids of some observations.
func idsOf(l []api.Observation) []int {
	var ids []int
	for _, x := range l {
		ids = append(ids, x.Id)
	}
	slices.Sort(ids)
	return ids
}

// compareLists compares two lists by their length, then element by element.
func compareLists[T cmp.Ordered](l, m []T) int {
	return cmp.Or(cmp.Compare(len(l), len(m)), slices.Compare(l, m))
}

func comparePairs(x, y api.Pair) int { return cmp.Or(cmp.Compare(x.A, y.A), cmp.Compare(x.B, y.B)) }

// unordered returns two things, the lesser one first.
func unordered(a, b int) api.Pair { return api.Pair{A: min(a, b), B: max(a, b)} }
