package plane

import (
	"slices"

	"giornata/api"
)

// Crossing returns the first pair of indices of segments that cross or overlap.
func Crossing(l []api.Seg) (int, int, bool, api.Errno) {
	if e := checkSegs(l); e != api.OK {
		return 0, 0, false, e
	}
	for i, s := range l {
		for j := i + 1; j < len(l); j++ {
			if kind := meet(s, l[j]); kind == api.MeetCross || kind == api.MeetOverlap {
				return i, j, true, api.OK
			}
		}
	}
	return 0, 0, false, api.OK
}

// Split returns the segments into which all segments are split at the ends of others.
func Split(l []api.Seg) ([]api.Seg, api.Errno) {
	if e := checkApart(l); e != api.OK {
		return nil, e
	}
	ends := make([]api.Point, 0, 2*len(l))
	for _, s := range l {
		ends = append(ends, s.A, s.B)
	}
	var out []api.Seg
	for _, s := range l {
		out = append(out, pieces(s, ends)...)
	}
	slices.SortFunc(out, compareSegs)
	return slices.Compact(out), api.OK
}

// pieces returns, in ascending order, the parts of a segment between its ends and those of some points that are on it.
func pieces(s api.Seg, points []api.Point) []api.Seg {
	cuts := []api.Point{s.A, s.B}
	for _, p := range points {
		if on(p, s) {
			cuts = append(cuts, p)
		}
	}
	slices.SortFunc(cuts, comparePoints)
	cuts = slices.Compact(cuts)
	out := make([]api.Seg, 0, len(cuts)-1)
	for i := 1; i < len(cuts); i++ {
		out = append(out, api.Seg{A: cuts[i-1], B: cuts[i]})
	}
	return out
}

func checkSegs(l []api.Seg) api.Errno {
	if len(l) > api.MaxSegs {
		return api.ErrLimit
	}
	for _, s := range l {
		if !validSeg(s) {
			return api.ErrArg
		}
	}
	return api.OK
}

// checkApart returns the error of Crossing, or ErrCross if it finds a pair.
func checkApart(l []api.Seg) api.Errno {
	_, _, found, e := Crossing(l)
	if found {
		return api.ErrCross
	}
	return e
}
