package reading

import (
	"slices"

	"giornata/api"
)

// place is where a way has come to, and whether it has an observation of the kind that it has to have.
type place struct {
	thing  int
	marked bool
}

// way returns the first list of Ids of a way from a thing to another one, or to itself, that has an observation of the kind mark; false if there is none.
// With ObOver the way is strict; with ObSame it has that kind alone; with ObApart it has that kind once, and otherwise ObSame alone.
// Places are reached by as few observations as possible. Of several lists of equal length the first one is enough for each place, because the same observations can go on behind all of them.
func (w wall) way(from, to int, mark uint8) ([]int, bool) {
	goal := place{to, true}
	reached := map[place][]int{{from, false}: nil}
	visited := map[place]bool{{from, false}: true}
	var found []int
search:
	for len(reached) > 0 {
		reached = w.further(reached, visited, mark)
		for p, ids := range reached {
			if p == goal {
				found = ids
				break search
			}
			visited[p] = true
		}
	}
	return found, found != nil
}

// further returns the places that one more observation leads to, where no way has come before, each with the first list of Ids that leads there.
func (w wall) further(reached map[place][]int, visited map[place]bool, mark uint8) map[place][]int {
	next := map[place][]int{}
	for p, ids := range reached {
		for _, x := range w.seen {
			to, is := p.by(x, mark)
			if !is || visited[to] {
				continue
			}
			longer := inserted(ids, x.Id)
			if best, is := next[to]; !is || compareLists(longer, best) < 0 {
				next[to] = longer
			}
		}
	}
	return next
}

// by returns where an observation leads from a place on a way that has to have an observation of the kind mark.
func (p place) by(x api.Observation, mark uint8) (place, bool) {
	isMark := x.Kind == mark
	if x.Kind != api.ObSame && !isMark || x.Kind == api.ObApart && p.marked {
		return place{}, false
	}
	switch {
	case x.A == p.thing:
		return place{x.B, p.marked || isMark}, true
	case x.B == p.thing && x.Kind != api.ObOver:
		return place{x.A, p.marked || isMark}, true
	}
	return place{}, false
}

// inserted returns a list of Ids with one more.
func inserted(ids []int, id int) []int {
	at, _ := slices.BinarySearch(ids, id)
	return slices.Insert(slices.Clone(ids), at, id)
}
