package faces

import (
	"slices"

	"giornata/api"
	"giornata/plane"
)

// Split returns the map with one more segment, and for each of its faces the one from which it comes.
func Split(m api.Map, s api.Seg, line int) (api.Map, []int, api.Errno) {
	if e := checkSplit(m, s, line); e != api.OK {
		return api.Map{}, nil, e
	}
	parts := cut(append(partsOf(m), part{s, line, -1}))
	out := mapOf(parts)
	from := origins(m, parts, out)
	for i, p := range parts {
		if p.edge < 0 && from[out.Edges[i].Left] == 0 {
			return api.Map{}, nil, api.ErrArg
		}
	}
	if tooLarge(out) {
		return api.Map{}, nil, api.ErrLimit
	}
	return out, from, api.OK
}

// Without returns the map without a line, and for each of its faces the one that has its points then.
func Without(m api.Map, line int) (api.Map, []int, api.Errno) {
	if Check(m) != api.OK || line < 0 || line >= api.MaxLines {
		return api.Map{}, nil, api.ErrArg
	}
	var rest []part
	var opened []pair
	for _, p := range partsOf(m) {
		if p.line == line {
			opened = append(opened, pair{m.Edges[p.edge].Left, m.Edges[p.edge].Right})
		} else {
			rest = append(rest, p)
		}
	}
	if len(opened) == 0 {
		return api.Map{}, nil, api.ErrNone
	}
	out := mapOf(rest)
	if Check(out) != api.OK {
		return api.Map{}, nil, api.ErrLoose
	}
	return out, merged(m, rest, out, opened), api.OK
}

// Move returns the map with dx added to each X, and dy to each Y.
func Move(m api.Map, dx, dy int) (api.Map, api.Errno) {
	if e := Check(m); e != api.OK {
		return api.Map{}, e
	}
	points, e := plane.Move(m.Points, dx, dy)
	if e != api.OK {
		return api.Map{}, e
	}
	return api.Map{Points: points, Edges: slices.Clone(m.Edges), Faces: m.Faces}, api.OK
}

// Mirror returns the map with each X replaced by width - X, and for each face its number there.
func Mirror(m api.Map, width int) (api.Map, []int, api.Errno) {
	if e := Check(m); e != api.OK {
		return api.Map{}, nil, e
	}
	points, e := plane.Mirror(m.Points, width)
	if e != api.OK {
		return api.Map{}, nil, e
	}
	parts := cut(partsOf(api.Map{Points: points, Edges: m.Edges}))
	out := mapOf(parts)
	numbers := make([]int, m.Faces+1)
	for i, p := range parts {
		left, right := out.Edges[i].Left, out.Edges[i].Right
		// What was above an edge still is; what was to the left of a vertical one is to the right of it.
		if p.A.X == p.B.X {
			left, right = right, left
		}
		numbers[m.Edges[p.edge].Left], numbers[m.Edges[p.edge].Right] = left, right
	}
	return out, numbers, api.OK
}

// checkSplit returns the errors of Split that show before the segment is drawn.
func checkSplit(m api.Map, s api.Seg, line int) api.Errno {
	if Check(m) != api.OK || !validSeg(s) || line < -1 || line >= api.MaxLines {
		return api.ErrArg
	}
	loose := true
	for _, e := range m.Edges {
		switch plane.Meet(s, segment(m, e)) {
		case api.MeetCross, api.MeetOverlap:
			return api.ErrCross
		case api.MeetEnd, api.MeetTouch:
			loose = false
		}
	}
	switch {
	case !loose:
		return api.OK
	case place(m, s.A) == 0:
		return api.ErrArg
	}
	return api.ErrLoose
}

func validSeg(s api.Seg) bool {
	return plane.CheckPoint(s.A) == api.OK && plane.CheckPoint(s.B) == api.OK && s.A != s.B
}

// origins returns for each face of a map that was split the face of m that has its points. Each walk passes some edge of m, because the new segment alone encloses nothing.
func origins(m api.Map, parts []part, split api.Map) []int {
	from := make([]int, split.Faces+1)
	for i, p := range parts {
		if p.edge >= 0 {
			from[split.Edges[i].Left] = m.Edges[p.edge].Left
			from[split.Edges[i].Right] = m.Edges[p.edge].Right
		}
	}
	return from
}

// merged returns for each face of m the face of a map without some edges that has its points. A face may have lost all its edges, but none that the others opened to it.
func merged(m api.Map, rest []part, without api.Map, opened []pair) []int {
	least := joined(m.Faces+1, opened)
	now := make([]int, m.Faces+1)
	for i, p := range rest {
		now[least[m.Edges[p.edge].Left]] = without.Edges[i].Left
		now[least[m.Edges[p.edge].Right]] = without.Edges[i].Right
	}
	out := make([]int, 0, len(least))
	for _, f := range least {
		out = append(out, now[f])
	}
	return out
}
