// Package reading reads a finished wall back: what observations say for certain, what they leave open, and where they contradict each other.
package reading

import (
	"slices"

	"giornata/api"
)

// Check returns the index of the first observation that is refused, and why; 0 and OK for a valid list.
func Check(n int, l []api.Observation) (int, api.Errno) {
	if !isCount(n) {
		return 0, api.ErrArg
	}
	for i, x := range l {
		if e := refusal(n, l[:i], x); e != api.OK {
			return i, e
		}
	}
	return 0, api.OK
}

// Append returns a list with one more observation.
func Append(n int, l []api.Observation, x api.Observation) ([]api.Observation, api.Errno) {
	if _, e := Check(n, l); e != api.OK {
		return nil, e
	}
	if e := refusal(n, l, x); e != api.OK {
		return nil, e
	}
	return slices.Concat(l, []api.Observation{x}), api.OK
}

// Counting returns the observations that count on a day.
func Counting(l []api.Observation, known int) []api.Observation {
	takenBack := map[int]bool{}
	for _, x := range l {
		if x.Kind == api.ObVoid && x.Known <= known {
			takenBack[x.Of] = true
		}
	}
	var out []api.Observation
	for _, x := range l {
		if isOfThings(x.Kind) && x.Known <= known && !takenBack[x.Id] {
			out = append(out, x)
		}
	}
	return out
}

// refusal returns why an observation may not stand behind those of a valid list, or OK.
func refusal(n int, before []api.Observation, x api.Observation) api.Errno {
	hasId := func(id int) func(y api.Observation) bool {
		return func(y api.Observation) bool { return y.Id == id }
	}
	switch {
	case !isWellFormed(n, x):
		return api.ErrArg
	case len(before) >= api.MaxObs:
		return api.ErrLimit
	case len(before) > 0 && x.Known < before[len(before)-1].Known:
		return api.ErrTime
	case slices.ContainsFunc(before, hasId(x.Id)):
		return api.ErrTwice
	case x.Kind != api.ObVoid:
		return api.OK
	}
	at := slices.IndexFunc(before, hasId(x.Of))
	switch {
	case at < 0:
		return api.ErrNone
	case before[at].Kind == api.ObVoid:
		return api.ErrArg
	case before[at].Reader != x.Reader:
		return api.ErrState
	}
	return api.OK
}

func isWellFormed(n int, x api.Observation) bool {
	if !isId(x.Id) || !isId(x.Reader) || x.Known < 0 || x.Known > api.MaxDay {
		return false
	}
	if x.Kind == api.ObVoid {
		return x.A == 0 && x.B == 0 && isId(x.Of)
	}
	return saysOfThings(n, x)
}

// saysOfThings reports whether an observation is one of two of n things, and well-formed as far as its kind asks for it.
func saysOfThings(n int, x api.Observation) bool {
	return isOfThings(x.Kind) && areThings(n, x.A, x.B) && x.Of == 0
}

// isOfThings reports whether observations of a kind say something of two things.
func isOfThings(kind uint8) bool {
	return kind == api.ObOver || kind == api.ObSame || kind == api.ObApart
}

// areThings reports whether a and b are two different ones of n things.
func areThings(n, a, b int) bool { return a != b && min(a, b) >= 1 && max(a, b) <= n }

func isId(n int) bool { return n >= 1 && n <= api.MaxId }

// isCount reports whether there can be n things.
func isCount(n int) bool { return n >= 0 && n <= api.MaxThings }
