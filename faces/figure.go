package faces

import (
	"cmp"
	"slices"

	"giornata/api"
	"giornata/plane"
)

// part is a segment of a figure, the line that it is part of, and the index of the edge from which it comes (-1: none).
type part struct {
	api.Seg
	line, edge int
}

// drawn returns the edges of a wall and the lines on it.
func drawn(wall []api.Point, lines []api.Seg) []part {
	out := make([]part, 0, len(wall)+len(lines))
	for i, p := range wall {
		out = append(out, part{api.Seg{A: p, B: wall[(i+1)%len(wall)]}, -1, -1})
	}
	for i, s := range lines {
		out = append(out, part{s, i, -1})
	}
	return out
}

// partsOf returns the edges of a map.
func partsOf(m api.Map) []part {
	out := make([]part, 0, len(m.Edges))
	for i, e := range m.Edges {
		out = append(out, part{segment(m, e), e.Line, i})
	}
	return out
}

// crossing reports whether two segments of a figure cross or overlap.
func crossing(figure []part) bool {
	segs := make([]api.Seg, 0, len(figure))
	for _, p := range figure {
		segs = append(segs, p.Seg)
	}
	_, _, found, _ := plane.Crossing(segs)
	return found
}

// endsOf returns the ends of all parts, ascending, each once.
func endsOf(figure []part) []api.Point {
	ends := make([]api.Point, 0, 2*len(figure))
	for _, p := range figure {
		ends = append(ends, p.A, p.B)
	}
	return slices.Compact(sorted(ends, comparePoints))
}

// cut returns the parts into which ends inside them cut the segments of a figure: each with its lesser end first, in ascending order.
func cut(figure []part) []part {
	ends := endsOf(figure)
	out := make([]part, 0, len(figure))
	for _, p := range figure {
		var last api.Point
		begun := false
		for _, end := range ends {
			if !plane.On(end, p.Seg) {
				continue
			}
			if begun {
				out = append(out, part{api.Seg{A: last, B: end}, p.line, p.edge})
			}
			last, begun = end, true
		}
	}
	return sorted(out, func(p, q part) int {
		return cmp.Or(comparePoints(p.A, q.A), comparePoints(p.B, q.B))
	})
}

// mapOf returns the map of parts as cut returns them: its edges have their indices.
func mapOf(parts []part) api.Map {
	points := endsOf(parts)
	index := make(map[api.Point]int, len(points))
	for i, p := range points {
		index[p] = i
	}
	edges := make([]api.Edge, 0, len(parts))
	for _, p := range parts {
		edges = append(edges, api.Edge{A: index[p.A], B: index[p.B], Line: p.line})
	}
	edges, faces := sided(points, edges)
	return api.Map{Points: points, Edges: edges, Faces: faces}
}
