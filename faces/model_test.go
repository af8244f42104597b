package faces_test

import (
	"cmp"
	"math"
	"slices"

	"giornata/api"
	"giornata/plane"
)

// The maps that functions return are compared with a model that follows no walks: it divides the plane into strips one unit wide, in which no edge ends, and joins the fields between the edges of each strip with those of the next one.

// finest is a multiple of each width that an edge of the model may have, so heights times finest are integers.
const finest = 27720

const sky = 1 << 40

// piece is a segment of a figure, and its line.
type piece struct {
	api.Seg
	line int
}

func comparePieces(a, b piece) int { return cmp.Or(comparePoints(a.A, b.A), comparePoints(a.B, b.B)) }

// cutAll cuts the pieces of a figure at the ends of others, and orders them and their ends.
func cutAll(l []piece) []piece {
	out := slices.Clone(l)
	for i := 0; i < len(out); i++ {
		if comparePoints(out[i].A, out[i].B) > 0 {
			out[i].A, out[i].B = out[i].B, out[i].A
		}
		for _, other := range l {
			for _, p := range []api.Point{other.A, other.B} {
				if s := out[i]; plane.On(p, s.Seg) && p != s.A && p != s.B {
					out[i].B = p
					out = append(out, piece{api.Seg{A: p, B: s.B}, s.line})
				}
			}
		}
	}
	slices.SortFunc(out, comparePieces)
	return out
}

func piecesOf(m api.Map) []piece {
	var out []piece
	for _, e := range m.Edges {
		out = append(out, piece{ends(m, e), e.Line})
	}
	return out
}

// field is what lies between two edges of a strip: x is the left side of the strip, and below how many edges are below.
type field struct{ x, below int }

type strips struct {
	m      api.Map
	lastX  int
	spans  map[int][]int // by x: the edges of a strip, from below to above
	joined map[field]field
}

func height(s api.Seg, x int) int {
	return s.A.Y*finest + (s.B.Y-s.A.Y)*(x-s.A.X)*(finest/(s.B.X-s.A.X))
}

func newStrips(m api.Map) *strips {
	w := &strips{m: m, spans: map[int][]int{}, joined: map[field]field{}}
	for _, p := range m.Points {
		w.lastX = max(w.lastX, p.X)
	}
	for x := -1; x <= w.lastX; x++ {
		for i, e := range m.Edges {
			if s := ends(m, e); s.A.X <= x && s.B.X >= x+1 {
				w.spans[x] = append(w.spans[x], i)
			}
		}
		slices.SortFunc(w.spans[x], func(a, b int) int {
			s, t := ends(m, m.Edges[a]), ends(m, m.Edges[b])
			return cmp.Compare(height(s, x)+height(s, x+1), height(t, x)+height(t, x+1))
		})
	}
	for x := 0; x <= w.lastX; x++ {
		for i := range len(w.spans[x-1]) + 1 {
			for j := range len(w.spans[x]) + 1 {
				w.join(x, field{x - 1, i}, field{x, j})
			}
		}
	}
	return w
}

// reach returns between which heights a field lies at an X.
func (w *strips) reach(f field, x int) (low, high int) {
	low, high = -sky, sky
	edges := w.spans[f.x]
	if f.below > 0 {
		low = height(ends(w.m, w.m.Edges[edges[f.below-1]]), x)
	}
	if f.below < len(edges) {
		high = height(ends(w.m, w.m.Edges[edges[f.below]]), x)
	}
	return low, high
}

// join joins two fields beside each other unless vertical edges keep them apart.
func (w *strips) join(x int, a, b field) {
	lowA, highA := w.reach(a, x)
	lowB, highB := w.reach(b, x)
	cuts := []int{max(lowA, lowB), min(highA, highB)}
	if cuts[0] >= cuts[1] {
		return
	}
	var upright []api.Seg
	for _, e := range w.m.Edges {
		if s := ends(w.m, e); s.A.X == x && s.B.X == x {
			upright = append(upright, s)
			cuts = append(cuts, min(max(s.A.Y*finest, cuts[0]), cuts[1]), min(max(s.B.Y*finest, cuts[0]), cuts[1]))
		}
	}
	slices.Sort(cuts)
	for i := 1; i < len(cuts); i++ {
		covered := func(s api.Seg) bool { return s.A.Y*finest <= cuts[i-1] && cuts[i] <= s.B.Y*finest }
		if cuts[i-1] < cuts[i] && !slices.ContainsFunc(upright, covered) {
			if p, q := w.root(a), w.root(b); p != q {
				w.joined[p] = q
			}
		}
	}
}

func (w *strips) root(f field) field {
	for next, ok := w.joined[f]; ok; next, ok = w.joined[f] {
		f = next
	}
	return f
}

// beside returns the fields to the left of an edge, from its lesser end, and to the right.
func (w *strips) beside(i int) (left, right field) {
	s := ends(w.m, w.m.Edges[i])
	if s.A.X < s.B.X {
		at := slices.Index(w.spans[s.A.X], i)
		return w.root(field{s.A.X, at + 1}), w.root(field{s.A.X, at})
	}
	at := func(x int) field {
		for below := range len(w.spans[x]) + 1 {
			if low, high := w.reach(field{x, below}, s.A.X); low <= s.A.Y*finest && s.B.Y*finest <= high {
				return w.root(field{x, below})
			}
		}
		panic("an edge without a field beside it")
	}
	return at(s.A.X - 1), at(s.A.X)
}

// model returns the map of a connected figure, and the doubled areas of its faces.
func model(l []piece) (api.Map, []int) {
	var m api.Map
	for _, p := range l {
		m.Points = append(m.Points, p.A, p.B)
	}
	slices.SortFunc(m.Points, comparePoints)
	m.Points = slices.Compact(m.Points)
	for _, p := range l {
		m.Edges = append(m.Edges, api.Edge{A: slices.Index(m.Points, p.A), B: slices.Index(m.Points, p.B), Line: p.line})
	}
	w := newStrips(m)
	faces := map[field]int{w.root(field{-1, 0}): 0}
	number := func(f field) int {
		if _, known := faces[f]; !known {
			faces[f] = len(faces)
		}
		return faces[f]
	}
	for i := range m.Edges {
		left, right := w.beside(i)
		m.Edges[i].Left = number(left)
		m.Edges[i].Right = number(right)
	}
	m.Faces = len(faces) - 1
	return m, w.areas(faces)
}

func (w *strips) areas(faces map[field]int) []int {
	out := make([]int, len(faces))
	for x := range w.spans {
		for below := 1; below < len(w.spans[x]); below++ {
			f := field{x, below}
			if face := faces[w.root(f)]; face > 0 {
				for _, at := range []int{x, x + 1} {
					low, high := w.reach(f, at)
					out[face] += high - low
					out[0] -= high - low
				}
			}
		}
	}
	for i := range out {
		out[i] /= finest
	}
	return out
}

// connected says whether the pieces of a figure hang together.
func connected(l []piece) bool {
	seen := map[api.Point]bool{}
	if len(l) > 0 {
		seen[l[0].A] = true
	}
	for range l {
		for _, p := range l {
			if seen[p.A] || seen[p.B] {
				seen[p.A], seen[p.B] = true, true
			}
		}
	}
	return !slices.ContainsFunc(l, func(p piece) bool { return !seen[p.A] })
}

// valid says whether a map is valid, by the four points of the chapter.
func valid(m api.Map) bool {
	if len(m.Points) > 400 || len(m.Edges) < 3 || len(m.Edges) > 400 {
		return false
	}
	for i, p := range m.Points {
		if plane.CheckPoint(p) != api.OK || i > 0 && comparePoints(m.Points[i-1], p) >= 0 {
			return false
		}
		if !slices.ContainsFunc(m.Edges, func(e api.Edge) bool { return e.A == i || e.B == i }) {
			return false
		}
	}
	for i, e := range m.Edges {
		if e.A < 0 || e.A >= e.B || e.B >= len(m.Points) || e.Line < -1 || e.Line > 199 {
			return false
		}
		if i > 0 && cmp.Or(cmp.Compare(m.Edges[i-1].A, e.A), cmp.Compare(m.Edges[i-1].B, e.B)) >= 0 {
			return false
		}
		for _, f := range m.Edges[:i] {
			if kind := plane.Meet(ends(m, e), ends(m, f)); kind != api.MeetNone && kind != api.MeetEnd {
				return false
			}
		}
	}
	if !connected(piecesOf(m)) {
		return false
	}
	w, _ := model(piecesOf(m))
	return w.Faces >= 1 && w.Faces <= 100 && sameMap(w, m)
}

// modelNext follows the chapter: the least angle by which one turns clockwise from the dart back, among some darts.
func modelNext(m api.Map, dart int, among func(dart int) bool) int {
	u, v := leads(m, dart)
	best, least := -1, math.Inf(1)
	for d := range 2 * len(m.Edges) {
		from, to := leads(m, d)
		if from != v || !among(d) {
			continue
		}
		turn := math.Mod(angle(m, v, u)-angle(m, v, to)+4*math.Pi, 2*math.Pi)
		if to == u {
			turn = 2 * math.Pi
		}
		if turn < least {
			best, least = d, turn
		}
	}
	return best
}

func angle(m api.Map, from, to int) float64 {
	p, q := m.Points[from], m.Points[to]
	return math.Atan2(float64(q.Y-p.Y), float64(q.X-p.X))
}

// leads returns the points from which and to which a dart leads.
func leads(m api.Map, dart int) (from, to int) {
	e := m.Edges[dart/2]
	if dart%2 == 0 {
		return e.A, e.B
	}
	return e.B, e.A
}

func anyDart(int) bool { return true }

func dartFace(m api.Map, dart int) int {
	if dart%2 == 0 {
		return m.Edges[dart/2].Left
	}
	return m.Edges[dart/2].Right
}

// modelWays returns the closed ways of some darts, each from its least dart on.
func modelWays(m api.Map, among func(dart int) bool) [][]int {
	var out [][]int
	seen := map[int]bool{}
	for first := range 2 * len(m.Edges) {
		if seen[first] || !among(first) {
			continue
		}
		var way []int
		for d := first; !seen[d]; d = modelNext(m, d, among) {
			seen[d] = true
			way = append(way, d)
		}
		out = append(out, way)
	}
	return out
}

func modelWalk(m api.Map, face int) []int {
	for _, way := range modelWays(m, anyDart) {
		if dartFace(m, way[0]) == face {
			return way
		}
	}
	return nil
}

// modelAt returns the face whose walk winds round a point that is on no edge.
func modelAt(m api.Map, p api.Point) int {
	for f := 1; f <= m.Faces; f++ {
		winds := 0
		for d := range 2 * len(m.Edges) {
			if dartFace(m, d) != f {
				continue
			}
			from, to := leads(m, d)
			a, b := m.Points[from], m.Points[to]
			left := (b.X-a.X)*(p.Y-a.Y) - (b.Y-a.Y)*(p.X-a.X)
			if a.Y <= p.Y && b.Y > p.Y && left > 0 {
				winds++
			}
			if a.Y > p.Y && b.Y <= p.Y && left < 0 {
				winds--
			}
		}
		if winds != 0 {
			return f
		}
	}
	return 0
}

// fine is how much the maps of small grids are scaled so that the middles of all their fields have integer coordinates: the edges are at most 6 wide.
const fine = 240

// columnPoints returns a point in each field of a strip of a scaled map, from below to above.
func columnPoints(m api.Map, x int) []api.Point {
	var heights []int
	for _, e := range m.Edges {
		if s := ends(m, e); s.A.X <= x && s.B.X >= x+1 {
			heights = append(heights, (height(s, x)+height(s, x+1))*(fine/2)/finest)
		}
	}
	slices.Sort(heights)
	// The figures lie far below the greatest Y; the lowest field may have no valid point, and is the face 0 as well.
	heights = append(heights, api.MaxCoord)
	var out []api.Point
	for i := 1; i < len(heights); i++ {
		out = append(out, pt(x*fine+fine/2, (heights[i-1]+heights[i])/2))
	}
	return out
}

// insides returns for each face a point that it has in the scaled map.
func insides(m api.Map, size int) map[int]api.Point {
	out := map[int]api.Point{}
	for x := range size {
		for _, p := range columnPoints(m, x) {
			out[modelAt(scaled(m, fine), p)] = p
		}
	}
	return out
}
