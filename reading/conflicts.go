package reading

import (
	"slices"

	"giornata/api"
)

// Consistent returns whether the observations that count agree.
func Consistent(n int, l []api.Observation, known int) (bool, api.Errno) {
	w, e := open(n, l, known)
	return e == api.OK && !w.contrary, e
}

// Conflict returns the first list of Ids of observations that contradict each other, if there is one.
func Conflict(n int, l []api.Observation, known int) ([]int, bool, api.Errno) {
	w, e := open(n, l, known)
	if e != api.OK {
		return nil, false, e
	}
	var first []int
	for thing := 1; thing <= n; thing++ {
		for _, mark := range []uint8{api.ObOver, api.ObApart} {
			ids, is := w.way(thing, thing, mark)
			if is && (first == nil || compareLists(ids, first) < 0) {
				first = ids
			}
		}
	}
	return first, first != nil, api.OK
}

// CheckConflict returns whether a list of Ids names observations that contradict each other, and agree without any one of them.
func CheckConflict(n int, l []api.Observation, known int, ids []int) (bool, api.Errno) {
	w, e := open(n, l, known)
	if e != api.OK {
		return false, e
	}
	chosen, is := w.chosen(ids)
	if !is || !wallOf(n, chosen).contrary {
		return false, api.OK
	}
	for i := range chosen {
		if wallOf(n, slices.Delete(slices.Clone(chosen), i, i+1)).contrary {
			return false, api.OK
		}
	}
	return true, api.OK
}

// Mend returns the first list of Ids of observations without which the others agree.
func Mend(n int, l []api.Observation, known int) ([]int, api.Errno) {
	w, e := open(n, l, known)
	if e != api.OK {
		return nil, e
	}
	if len(w.seen) > api.MaxMend {
		return nil, api.ErrLimit
	}
	least := idsOf(w.seen)
	for places := range 1 << len(w.seen) {
		taken, left := parted(w.seen, places)
		if ids := idsOf(taken); compareLists(ids, least) < 0 && !wallOf(n, left).contrary {
			least = ids
		}
	}
	return least, api.OK
}

// parted returns the observations whose places are bits of a number, and the others.
func parted(l []api.Observation, places int) (taken, left []api.Observation) {
	for i, x := range l {
		if places&(1<<i) != 0 {
			taken = append(taken, x)
		} else {
			left = append(left, x)
		}
	}
	return taken, left
}
