package plane

import (
	"cmp"

	"giornata/api"
)

// On reports whether a point is a point of a segment.
func On(p api.Point, s api.Seg) bool {
	return CheckPoint(p) == api.OK && validSeg(s) && on(p, s)
}

// Meet returns how two segments meet.
func Meet(s, t api.Seg) uint8 {
	if !validSeg(s) || !validSeg(t) {
		return api.MeetNone
	}
	return meet(s, t)
}

// Cross returns the only point that two segments have in common.
func Cross(s, t api.Seg) (x, y api.Frac, ok bool) {
	switch Meet(s, t) {
	case api.MeetEnd, api.MeetTouch:
		p := commonEnd(s, t)
		return api.Frac{Num: p.X, Den: 1}, api.Frac{Num: p.Y, Den: 1}, true
	case api.MeetCross:
		x, y = crossing(s, t)
		return x, y, true
	}
	return api.Frac{}, api.Frac{}, false
}

// Above compares two segments over the X that both have.
func Above(s, t api.Seg) (int, bool) {
	if !validSeg(s) || !validSeg(t) {
		return 0, false
	}
	s, t = forward(s), forward(t)
	// A vertical segment has one X alone, so it never shares more with another one.
	from, to := max(s.A.X, t.A.X), min(s.B.X, t.B.X)
	kind := meet(s, t)
	if from >= to || kind == api.MeetCross || kind == api.MeetOverlap {
		return 0, false
	}
	// Segments that do not cross may still meet at one end of what they share, so the other end decides.
	if order := heightAt(s, 2*from).compare(heightAt(t, 2*from)); order != 0 {
		return order, true
	}
	return heightAt(s, 2*to).compare(heightAt(t, 2*to)), true
}

func validSeg(s api.Seg) bool {
	return CheckPoint(s.A) == api.OK && CheckPoint(s.B) == api.OK && s.A != s.B
}

func vertical(s api.Seg) bool {
	return s.A.X == s.B.X
}

// forward returns the segment with its lesser end first.
func forward(s api.Seg) api.Seg {
	if comparePoints(s.A, s.B) > 0 {
		return api.Seg{A: s.B, B: s.A}
	}
	return s
}

func compareSegs(s, t api.Seg) int {
	return cmp.Or(comparePoints(s.A, t.A), comparePoints(s.B, t.B))
}

func on(p api.Point, s api.Seg) bool {
	s = forward(s)
	return turn(s.A, s.B, p) == 0 && comparePoints(s.A, p) <= 0 && comparePoints(p, s.B) <= 0
}

func meet(s, t api.Seg) uint8 {
	overS := turn(s.A, s.B, t.A) * turn(s.A, s.B, t.B)
	overT := turn(t.A, t.B, s.A) * turn(t.A, t.B, s.B)
	switch {
	case turn(s.A, s.B, t.A) == 0 && turn(s.A, s.B, t.B) == 0:
		return meetOnLine(forward(s), forward(t))
	case overS > 0 || overT > 0:
		return api.MeetNone
	case overS == 0 && overT == 0:
		return api.MeetEnd
	case overS == 0 || overT == 0:
		return api.MeetTouch
	}
	return api.MeetCross
}

// meetOnLine says how two segments of one line meet; each has its lesser end first.
func meetOnLine(s, t api.Seg) uint8 {
	first, last := s.A, s.B
	if comparePoints(first, t.A) < 0 {
		first = t.A
	}
	if comparePoints(last, t.B) > 0 {
		last = t.B
	}
	switch comparePoints(first, last) {
	case -1:
		return api.MeetOverlap
	case 0:
		return api.MeetEnd
	}
	return api.MeetNone
}

// commonEnd returns the end of one of two segments that is the only point of both.
func commonEnd(s, t api.Seg) api.Point {
	switch {
	case on(s.A, t):
		return s.A
	case on(s.B, t):
		return s.B
	case on(t.A, s):
		return t.A
	}
	return t.B
}

// crossing returns the point where the lines of two segments that cross meet.
func crossing(s, t api.Seg) (x, y api.Frac) {
	dx, dy := s.B.X-s.A.X, s.B.Y-s.A.Y
	ex, ey := t.B.X-t.A.X, t.B.Y-t.A.Y
	den := dx*ey - dy*ex
	part := (t.A.X-s.A.X)*ey - (t.A.Y-s.A.Y)*ex
	return lowest(s.A.X*den+part*dx, den), lowest(s.A.Y*den+part*dy, den)
}

func lowest(num, den int) api.Frac {
	if den < 0 {
		num, den = -num, -den
	}
	g := divisor(max(num, -num), den)
	return api.Frac{Num: num / g, Den: den / g}
}

// divisor returns the greatest common divisor.
func divisor(a, b int) int {
	for b != 0 {
		a, b = b, a%b
	}
	return a
}
