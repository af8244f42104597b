package faces

import "giornata/api"

// Parts returns the parts of a set of faces.
func Parts(m api.Map, faces []int) ([][]int, api.Errno) {
	in, e := checkSet(m, faces)
	if e != api.OK {
		return nil, e
	}
	var links []pair
	for _, x := range m.Edges {
		if in[x.Left] && in[x.Right] {
			links = append(links, pair{x.Left, x.Right})
		}
	}
	least := joined(len(in), links)
	parts := make([][]int, len(in))
	for f, has := range in {
		if has {
			parts[least[f]] = append(parts[least[f]], f)
		}
	}
	var out [][]int
	for _, group := range parts {
		if len(group) > 0 {
			out = append(out, group)
		}
	}
	return out, api.OK
}

// Border returns the edges of which exactly one side is in a set of faces.
func Border(m api.Map, faces []int) ([]int, api.Errno) {
	in, e := checkSet(m, faces)
	if e != api.OK {
		return nil, e
	}
	return edgesThat(m, func(x api.Edge) bool { return in[x.Left] != in[x.Right] }), api.OK
}

// Outline returns the closed ways round a set of faces.
func Outline(m api.Map, faces []int) ([][]api.Point, api.Errno) {
	in, e := checkSet(m, faces)
	if e != api.OK {
		return nil, e
	}
	darts := dartsOf(m.Points, m.Edges)
	var out [][]api.Point
	for round := range rounds(darts, nextOutline(m, in, nextOf(darts))) {
		way := make([]api.Point, 0, len(round))
		for _, d := range round {
			way = append(way, m.Points[d.from])
		}
		out = append(out, way)
	}
	return out, api.OK
}

// nextOutline returns for each outline dart the one with which the outline goes on, and -1 for the other darts.
func nextOutline(m api.Map, in []bool, next []int) []int {
	outer := func(number int) bool { return in[faceOf(m, number)] && !in[faceOf(m, back(number))] }
	out := make([]int, 0, len(next))
	for number, after := range next {
		if !outer(number) {
			out = append(out, -1)
			continue
		}
		// What lies clockwise of the dart back is in the set, up to the next edge of the border, so an outline dart is met before the turn is full.
		for !outer(after) {
			after = next[back(after)]
		}
		out = append(out, after)
	}
	return out
}

// checkSet returns for each face whether it is in a set of faces.
func checkSet(m api.Map, faces []int) ([]bool, api.Errno) {
	if e := Check(m); e != api.OK {
		return nil, e
	}
	in := make([]bool, m.Faces+1)
	for _, f := range faces {
		if f < 0 || f > m.Faces {
			return nil, api.ErrArg
		}
		if in[f] {
			return nil, api.ErrTwice
		}
		in[f] = true
	}
	return in, api.OK
}
