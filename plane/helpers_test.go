package plane_test

import (
	"math/big"
	"reflect"
	"slices"
	"sort"
	"testing"

	"giornata/api"
	"giornata/plane"
)

const (
	huge = int(^uint(0) >> 1)
	tiny = -huge - 1
)

func pt(x, y int) api.Point { return api.Point{X: x, Y: y} }

func sg(a, b, c, d int) api.Seg { return api.Seg{A: pt(a, b), B: pt(c, d)} }

func back(s api.Seg) api.Seg { return api.Seg{A: s.B, B: s.A} }

// list returns the points with some coordinates.
func list(l ...int) []api.Point {
	var out []api.Point
	for i := 0; i+1 < len(l); i += 2 {
		out = append(out, pt(l[i], l[i+1]))
	}
	return out
}

func tri(l ...int) api.Triangle {
	return api.Triangle{A: pt(l[0], l[1]), B: pt(l[2], l[3]), C: pt(l[4], l[5])}
}

// same compares results; nil and empty slices are equal.
func same(a, b any) bool {
	x, y := reflect.ValueOf(a), reflect.ValueOf(b)
	if x.Kind() == reflect.Slice && y.Kind() == reflect.Slice && x.Len() == 0 && y.Len() == 0 {
		return true
	}
	return reflect.DeepEqual(a, b)
}

func want(t *testing.T, name string, got, wanted any) {
	t.Helper()
	if !same(got, wanted) {
		t.Errorf("%s: %v, want %v", name, got, wanted)
	}
}

// dice yields numbers that are the same in every run.
type dice struct{ state uint64 }

func (d *dice) roll(n int) int {
	d.state = d.state*6364136223846793005 + 1442695040888963407
	return int((d.state >> 33) % uint64(n))
}

func (d *dice) point(size int) api.Point { return pt(d.roll(size+1), d.roll(size+1)) }

func (d *dice) seg(size int) api.Seg {
	s := api.Seg{A: d.point(size), B: d.point(size)}
	for s.A == s.B {
		s.B = d.point(size)
	}
	return s
}

// polygon grows a simple polygon of about some corners on a grid.
func (d *dice) polygon(size, corners int) []api.Point {
	l := []api.Point{pt(0, 0), pt(size, 0), pt(d.roll(size+1), size)}
	if d.roll(2) == 0 {
		slices.Reverse(l)
	}
	for try := 0; try < 20*corners && len(l) < corners; try++ {
		if next := slices.Insert(slices.Clone(l), 1+d.roll(len(l)), d.point(size)); simple(next) {
			l = next
		}
	}
	return l
}

// gridPoints returns all points with coordinates from 0 to a size.
func gridPoints(size int) []api.Point {
	var out []api.Point
	for x := 0; x <= size; x++ {
		for y := 0; y <= size; y++ {
			out = append(out, pt(x, y))
		}
	}
	return out
}

func gridSegs(size int) []api.Seg {
	var out []api.Seg
	for _, a := range gridPoints(size) {
		for _, b := range gridPoints(size) {
			if a != b {
				out = append(out, api.Seg{A: a, B: b})
			}
		}
	}
	return out
}

func rat(n int) *big.Rat { return big.NewRat(int64(n), 1) }

// common returns how many points two segments have in common (2: more than one), and the only one, by solving for the place of t on s.
func common(s, t api.Seg) (n int, x, y *big.Rat) {
	dx, dy := s.B.X-s.A.X, s.B.Y-s.A.Y
	ex, ey := t.B.X-t.A.X, t.B.Y-t.A.Y
	gx, gy := t.A.X-s.A.X, t.A.Y-s.A.Y
	den := dx*ey - dy*ex
	if den != 0 {
		u := big.NewRat(int64(gx*ey-gy*ex), int64(den))
		v := big.NewRat(int64(gx*dy-gy*dx), int64(den))
		if outside(u) || outside(v) {
			return 0, nil, nil
		}
		x = new(big.Rat).Add(rat(s.A.X), new(big.Rat).Mul(u, rat(dx)))
		y = new(big.Rat).Add(rat(s.A.Y), new(big.Rat).Mul(u, rat(dy)))
		return 1, x, y
	}
	if gx*dy != gy*dx {
		return 0, nil, nil
	}
	place := func(p api.Point) int { return (p.X-s.A.X)*dx + (p.Y-s.A.Y)*dy }
	from, to := max(0, min(place(t.A), place(t.B))), min(place(s.B), max(place(t.A), place(t.B)))
	if from > to {
		return 0, nil, nil
	}
	if from < to {
		return 2, nil, nil
	}
	p := s.A
	if from != 0 {
		p = s.B
	}
	return 1, rat(p.X), rat(p.Y)
}

func outside(u *big.Rat) bool { return u.Sign() < 0 || u.Cmp(rat(1)) > 0 }

func isEnd(s api.Seg, x, y *big.Rat) bool {
	return x.Cmp(rat(s.A.X)) == 0 && y.Cmp(rat(s.A.Y)) == 0 || x.Cmp(rat(s.B.X)) == 0 && y.Cmp(rat(s.B.Y)) == 0
}

// kind is what Meet has to return for valid segments.
func kind(s, t api.Seg) uint8 {
	n, x, y := common(s, t)
	switch {
	case n == 0:
		return api.MeetNone
	case n == 2:
		return api.MeetOverlap
	case isEnd(s, x, y) && isEnd(t, x, y):
		return api.MeetEnd
	case isEnd(s, x, y) || isEnd(t, x, y):
		return api.MeetTouch
	}
	return api.MeetCross
}

func sides(l []api.Point) []api.Seg {
	var out []api.Seg
	for i, p := range l {
		out = append(out, api.Seg{A: p, B: l[(i+1)%len(l)]})
	}
	return out
}

// simple says whether a list of valid points is a simple polygon.
func simple(l []api.Point) bool {
	if len(l) < 3 {
		return false
	}
	for i, p := range l {
		if slices.Index(l, p) != i {
			return false
		}
	}
	border := sides(l)
	for i, s := range border {
		for j := i + 1; j < len(border); j++ {
			near := j == i+1 || i == 0 && j == len(border)-1
			if n, _, _ := common(s, border[j]); n == 2 || n == 1 && !near {
				return false
			}
		}
	}
	return true
}

func onSide(p api.Point, s api.Seg) bool {
	return (s.B.X-s.A.X)*(p.Y-s.A.Y) == (s.B.Y-s.A.Y)*(p.X-s.A.X) &&
		min(s.A.X, s.B.X) <= p.X && p.X <= max(s.A.X, s.B.X) && min(s.A.Y, s.B.Y) <= p.Y && p.Y <= max(s.A.Y, s.B.Y)
}

// place is what Where has to return for a simple polygon: it counts how often the border winds round the point.
func place(l []api.Point, p api.Point) uint8 {
	winds := 0
	for _, s := range sides(l) {
		if onSide(p, s) {
			return api.WhereOn
		}
		left := (s.B.X-s.A.X)*(p.Y-s.A.Y) - (s.B.Y-s.A.Y)*(p.X-s.A.X)
		if s.A.Y <= p.Y && s.B.Y > p.Y && left > 0 {
			winds++
		}
		if s.A.Y > p.Y && s.B.Y <= p.Y && left < 0 {
			winds--
		}
	}
	if winds != 0 {
		return api.WhereIn
	}
	return api.WhereOut
}

func area(l []api.Point) int {
	sum := 0
	for _, s := range sides(l) {
		sum += s.A.X*s.B.Y - s.A.Y*s.B.X
	}
	return sum
}

func inTriangle(p api.Point, t api.Triangle) bool {
	return place([]api.Point{t.A, t.B, t.C}, p) != api.WhereOut
}

func yAt(s api.Seg, x *big.Rat) *big.Rat {
	part := new(big.Rat).Sub(x, rat(s.A.X))
	part.Mul(part, big.NewRat(int64(s.B.Y-s.A.Y), int64(s.B.X-s.A.X)))
	return part.Add(part, rat(s.A.Y))
}

// strips returns what Sweep has to return, also for segments that cross; equal ones stay in the order of their indices.
func strips(l []api.Seg) []api.Strip {
	seen := map[int]bool{}
	for _, s := range l {
		seen[s.A.X], seen[s.B.X] = true, true
	}
	var xs []int
	for x := range seen {
		xs = append(xs, x)
	}
	sort.Ints(xs)
	var out []api.Strip
	for i := 1; i < len(xs); i++ {
		strip := api.Strip{From: xs[i-1], To: xs[i]}
		for j, s := range l {
			if min(s.A.X, s.B.X) <= strip.From && max(s.A.X, s.B.X) >= strip.To {
				strip.Segs = append(strip.Segs, j)
			}
		}
		middle := big.NewRat(int64(strip.From+strip.To), 2)
		sort.SliceStable(strip.Segs, func(a, b int) bool {
			return yAt(l[strip.Segs[a]], middle).Cmp(yAt(l[strip.Segs[b]], middle)) < 0
		})
		out = append(out, strip)
	}
	return out
}

func copied(c []api.Strip) []api.Strip {
	out := slices.Clone(c)
	for i := range out {
		out[i].Segs = slices.Clone(out[i].Segs)
	}
	return out
}

// comb returns a simple polygon with any number of corners that is a multiple of 4.
func comb(corners int) []api.Point {
	var out []api.Point
	for i := 0; i < corners/4; i++ {
		out = append(out, pt(4*i, 0), pt(4*i+2, 0))
		if i < corners/4-1 {
			out = append(out, pt(4*i+2, 5), pt(4*i+4, 5))
		}
	}
	return append(out, pt(corners, 9), pt(0, 9))
}

// row returns some valid points that differ.
func row(n int) []api.Point {
	var out []api.Point
	for i := range n {
		out = append(out, pt(i, i%7))
	}
	return out
}

// ladder returns some segments that do not meet.
func ladder(n int) []api.Seg {
	var out []api.Seg
	for i := range n {
		out = append(out, sg(0, i, 9, i))
	}
	return out
}

func sum(l []api.Triangle) int {
	n := 0
	for _, x := range l {
		n += area([]api.Point{x.A, x.B, x.C})
	}
	return n
}

func total(l []api.Seg) int {
	n := 0
	for _, s := range l {
		n += plane.Length([]api.Point{s.A, s.B})
	}
	return n
}

// apart returns random segments of which no two cross or overlap.
func (d *dice) apart(size, count int) []api.Seg {
	var out []api.Seg
next:
	for range 4 * count {
		s := d.seg(size)
		for _, t := range out {
			if k := kind(s, t); k == api.MeetCross || k == api.MeetOverlap {
				continue next
			}
		}
		out = append(out, s)
	}
	return out
}
