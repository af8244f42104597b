// Package crew says on which days the tasks of a work can be done, plans them, and changes plans when something is delayed.
package crew

import (
	"slices"
	"strings"

	"giornata/api"
)

// The year of the chapter.
const (
	seasonCount = 12
	seasonDays  = 30
	yearDays    = seasonCount * seasonDays
)

// endOfDays is the day behind the last one.
const endOfDays = api.MaxDay + 1

// CheckYard returns OK if a yard is valid. Each error is looked for in the whole yard before the next one is.
func CheckYard(y api.Yard) api.Errno {
	switch {
	case len(y.Closed) > api.MaxClosed || len(y.Pits) > api.MaxPits || len(y.Masters) > api.MaxMasters:
		return api.ErrLimit
	case slices.ContainsFunc(y.Masters, func(x api.Master) bool { return !isName(x.Name) }):
		return api.ErrForm
	case !areInRange(y):
		return api.ErrArg
	}
	return api.OK
}

// SeasonOf returns the season of a day.
func SeasonOf(y api.Yard, day int) api.Season {
	if CheckYard(y) != api.OK || !isDay(day) {
		return api.Season{}
	}
	return calendar{Yard: y}.season(day)
}

// Open reports whether a day is open.
func Open(y api.Yard, day int) bool {
	return CheckYard(y) == api.OK && calendar{Yard: y}.isOpen(day)
}

// Minutes returns the minutes of a day.
func Minutes(y api.Yard, day int) int {
	if CheckYard(y) != api.OK {
		return 0
	}
	return calendar{Yard: y}.minutes(day)
}

// Batches returns how much lime may be used by a day.
func Batches(y api.Yard, day int) int {
	if CheckYard(y) != api.OK {
		return 0
	}
	return calendar{Yard: y}.batches(day)
}

// Skilled returns the masters who are there on a day and have at least a skill.
func Skilled(y api.Yard, day, need int) []int {
	if CheckYard(y) != api.OK {
		return nil
	}
	return calendar{Yard: y}.skilled(day, need)
}

// Close returns the yard with one more closed day.
func Close(y api.Yard, day int) (api.Yard, api.Errno) {
	if e := CheckYard(y); e != api.OK {
		return api.Yard{}, e
	}
	if !isDay(day) {
		return api.Yard{}, api.ErrArg
	}
	place, isClosed := slices.BinarySearch(y.Closed, day)
	if isClosed {
		return api.Yard{}, api.ErrTwice
	}
	if len(y.Closed) == api.MaxClosed {
		return api.Yard{}, api.ErrLimit
	}
	y.Closed = slices.Insert(slices.Clone(y.Closed), place, day)
	y.Pits, y.Masters = slices.Clone(y.Pits), slices.Clone(y.Masters)
	return y, api.OK
}

// areInRange reports whether all numbers of a yard are as those of a valid one.
func areInRange(y api.Yard) bool {
	return areAscending(y.Closed, endOfDays) && isWithin(y.Dry, 0, api.MaxDry) &&
		!slices.ContainsFunc(y.Seasons[:], func(x api.Season) bool { return !isSeason(x) }) &&
		!slices.ContainsFunc(y.Pits, func(x api.Lime) bool { return !isPit(x) }) &&
		!slices.ContainsFunc(y.Masters, func(x api.Master) bool { return !isMaster(x) })
}

// areAscending reports whether numbers are strictly ascending, from 0 on and below another one.
func areAscending(list []int, until int) bool {
	last := -1
	for _, n := range list {
		if n <= last || n >= until {
			return false
		}
		last = n
	}
	return true
}

func isSeason(x api.Season) bool {
	return isWithin(x.Light, 0, api.MaxLight) && isWithin(x.Wet, 0, api.MaxLight)
}

func isPit(x api.Lime) bool {
	return isDay(x.Slaked) && isWithin(x.Age, 0, api.MaxAge) && isWithin(x.Batches, 1, api.MaxBatches)
}

func isMaster(x api.Master) bool {
	return x.From >= 0 && x.From < x.Until && x.Until <= endOfDays && isSkill(x.Skill)
}

func isSkill(n int) bool { return isWithin(n, 1, api.MaxSkill) }

func isDay(n int) bool { return isWithin(n, 0, api.MaxDay) }

func isWithin(n, least, greatest int) bool { return n >= least && n <= greatest }

func isName(s string) bool {
	isOther := func(c rune) bool { return !isLetter(c) && !(c >= '0' && c <= '9') && c != '-' }
	return len(s) >= 1 && len(s) <= api.MaxName && isLetter(rune(s[0])) && !strings.ContainsFunc(s, isOther)
}

func isLetter(c rune) bool { return c >= 'a' && c <= 'z' }
