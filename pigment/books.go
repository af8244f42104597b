// Package pigment keeps dated rules for pigments, says what may be laid and in which order, and mixes shades by exact fractions.
package pigment

import (
	"slices"

	"giornata/api"
)

// Check returns the index of the first rule that is refused, and why; 0 and OK for a valid book.
func Check(b api.Book) (int, api.Errno) {
	for i, r := range b.Rules {
		if e := refusal(b.Rules[:i], r); e != api.OK {
			return i, e
		}
	}
	return 0, api.OK
}

// Append returns a book with one more rule.
func Append(b api.Book, r api.Rule) (api.Book, api.Errno) {
	if _, e := Check(b); e != api.OK {
		return api.Book{}, e
	}
	if e := refusal(b.Rules, r); e != api.OK {
		return api.Book{}, e
	}
	return api.Book{Rules: slices.Concat(b.Rules, []api.Rule{r})}, api.OK
}

// refusal returns why a rule may not stand behind the rules of a valid book, or OK.
func refusal(before []api.Rule, r api.Rule) api.Errno {
	hasId := func(x api.Rule) bool { return x.Id == r.Id }
	isNamed := func(x api.Rule) bool { return x.Id == r.Of && x.Kind != api.RuleVoid }
	switch {
	case len(before) >= api.MaxBook:
		return api.ErrLimit
	case !isWellFormed(r):
		return api.ErrArg
	case slices.ContainsFunc(before, hasId):
		return api.ErrTwice
	case len(before) > 0 && r.Known < before[len(before)-1].Known:
		return api.ErrTime
	case r.Kind == api.RuleVoid && !slices.ContainsFunc(before, isNamed):
		return api.ErrNone
	case r.Kind == api.RuleGroup && indexed(before).groups(r.Y)[r.X]:
		// The rules before make no circle, so only one with this rule is possible.
		return api.ErrLoop
	}
	return api.OK
}

func isWellFormed(r api.Rule) bool {
	if !isId(r.Id) || r.Known < 0 || r.Known > api.MaxDay {
		return false
	}
	switch r.Kind {
	case api.RuleFast, api.RuleDry:
		return isName(r.X) && r.Y == "" && r.Of == 0
	case api.RuleBeside, api.RuleOver:
		return isName(r.X) && isName(r.Y) && r.Of == 0
	case api.RuleGroup:
		return isName(r.X) && isName(r.Y) && r.X != r.Y && r.Of == 0
	case api.RuleVoid:
		return r.X == "" && r.Y == "" && isId(r.Of) && r.Of != r.Id
	}
	return false
}

func isId(n int) bool { return n >= 1 && n <= api.MaxId }

func isName(s string) bool {
	if len(s) < 1 || len(s) > api.MaxName || !isLetter(s[0]) {
		return false
	}
	for i := range len(s) {
		if !isLetter(s[i]) && !isDigit(s[i]) && s[i] != '-' {
			return false
		}
	}
	return true
}

func isLetter(c byte) bool { return c >= 'a' && c <= 'z' }

func isDigit(c byte) bool { return c >= '0' && c <= '9' }
