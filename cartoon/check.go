// Package cartoon reads the cartoon of a wall, and computes the cells that have to be laid on one day and the seams between them.
package cartoon

import (
	"slices"

	"giornata/api"
	"giornata/plane"
)

// Limits of the chapter that package api does not name.
const (
	minWall, maxWall   = 3, 60
	minChain, maxChain = 2, 40
	maxSegments        = 300
)

// Check returns OK if a cartoon is well-formed.
func Check(c api.Cartoon) api.Errno {
	if len(c.Wall) < minWall || len(c.Wall) > maxWall {
		return api.ErrLimit
	}
	if !valid(c.Wall...) {
		return api.ErrArg
	}
	segments := 0
	for i, l := range c.Lines {
		if e := checkLine(l, c.Lines[:i]); e != api.OK {
			return e
		}
		segments += len(l.Chain) - 1
		if segments > maxSegments {
			return api.ErrLimit
		}
	}
	for i, g := range c.Grounds {
		if e := checkGround(g, c.Grounds[:i]); e != api.OK {
			return e
		}
	}
	return api.OK
}

func checkLine(l api.Line, earlier []api.Line) api.Errno {
	if len(earlier) >= api.MaxChains || len(l.Chain) < minChain || len(l.Chain) > maxChain {
		return api.ErrLimit
	}
	if !isName(l.Name) {
		return api.ErrForm
	}
	if slices.ContainsFunc(earlier, func(x api.Line) bool { return x.Name == l.Name }) {
		return api.ErrTwice
	}
	if !isPriced(l) || !valid(l.Chain...) {
		return api.ErrArg
	}
	return api.OK
}

// isPriced reports whether a line has a kind, and a price that this kind may have.
func isPriced(l api.Line) bool {
	switch l.Kind {
	case api.LineSeam:
		return l.Price >= 0 && l.Price <= api.MaxPrice
	case api.LineNever:
		return l.Price == 0
	}
	return false
}

func checkGround(g api.Ground, earlier []api.Ground) api.Errno {
	if len(earlier) >= api.MaxGrounds || len(g.Colours) > api.MaxColours {
		return api.ErrLimit
	}
	if !isName(g.Name) || !areNames(g.Colours) {
		return api.ErrForm
	}
	if slices.ContainsFunc(earlier, func(x api.Ground) bool { return x.Name == g.Name }) || !different(g.Colours) {
		return api.ErrTwice
	}
	if g.Work < 1 || g.Work > api.MaxWork || !valid(g.At) {
		return api.ErrArg
	}
	return api.OK
}

func valid(l ...api.Point) bool {
	return !slices.ContainsFunc(l, func(p api.Point) bool { return plane.CheckPoint(p) != api.OK })
}

func isName(s string) bool {
	if len(s) < 1 || len(s) > api.MaxName || !isLetter(s[0]) {
		return false
	}
	for i := range len(s) {
		if !isLetter(s[i]) && !isDigit(s[i]) && s[i] != '-' {
			return false
		}
	}
	return true
}

func isLetter(b byte) bool { return b >= 'a' && b <= 'z' }

func isDigit(b byte) bool { return b >= '0' && b <= '9' }

func areNames(l []string) bool {
	return !slices.ContainsFunc(l, func(s string) bool { return !isName(s) })
}

func different(l []string) bool {
	for i, s := range l {
		if slices.Contains(l[:i], s) {
			return false
		}
	}
	return true
}
