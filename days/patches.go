// Package days divides the cells of a sheet into patches of a day each: with the fewest days, then with the least seam.
package days

import (
	"slices"

	"giornata/api"
)

// CheckLimits returns ErrArg if limits are not valid.
func CheckLimits(l api.Limits) api.Errno {
	if l.Minutes < 1 || l.Minutes > api.MaxMinutes || len(l.Stages) < 1 || len(l.Stages) > api.MaxStages {
		return api.ErrArg
	}
	if slices.ContainsFunc(l.Stages, func(x api.Stage) bool { return x.From < 0 || x.To < x.From || x.To > api.MaxCoord }) {
		return api.ErrArg
	}
	return api.OK
}

// Work returns the work of all cells of a patch.
func Work(s api.Sheet, patch []int) (int, api.Errno) {
	w, e := open(s)
	if e != api.OK {
		return 0, e
	}
	p, e := w.patch(patch)
	return w.work(p), e
}

// Reach returns the stages that reach a patch.
func Reach(s api.Sheet, l api.Limits, patch []int) ([]int, api.Errno) {
	w, p, e := openPatch(s, l, patch)
	if e != api.OK {
		return nil, e
	}
	return w.reach(p), api.OK
}

// Joined reports whether each cell of a patch can be reached from each other one.
func Joined(s api.Sheet, patch []int) (bool, api.Errno) {
	w, e := open(s)
	if e != api.OK {
		return false, e
	}
	p, e := w.patch(patch)
	return e == api.OK && w.joined(p), e
}

// Fits returns why a patch does not fit, or FitOk.
func Fits(s api.Sheet, l api.Limits, patch []int) (uint8, api.Errno) {
	w, p, e := openPatch(s, l, patch)
	if e != api.OK {
		return 0, e
	}
	return w.why(p), api.OK
}

// Patches returns all patches that fit, ordered by the numbers of their sets.
func Patches(s api.Sheet, l api.Limits) ([][]int, api.Errno) {
	w, e := openSmall(s, l)
	if e != api.OK {
		return nil, e
	}
	var out [][]int
	for p := range w.fitting() {
		out = append(out, p.list())
	}
	return out, api.OK
}
