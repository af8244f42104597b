package pigment

import (
	"slices"

	"giornata/api"
)

// MayBeside returns whether a name may lie beside another one, or the Id of the first rule that forbids it.
func MayBeside(b api.Book, known int, x, y string) (bool, int) { return on(b, known).mayBeside(x, y) }

// MayOver returns whether a name may lie over another one, or the Id of the first rule that forbids it.
func MayOver(b api.Book, known int, x, y string) (bool, int) { return on(b, known).mayOver(x, y) }

// Strokes returns which colours are laid on wet plaster, and which ones on dry plaster.
func Strokes(b api.Book, known int, colours []string) (fresh, dry []string, e api.Errno) {
	if e = checkColours(colours); e != api.OK {
		return nil, nil, e
	}
	k := on(b, known)
	for _, x := range colours {
		switch k.state(x) {
		case api.PigFresh:
			fresh = append(fresh, x)
		case api.PigDry:
			dry = append(dry, x)
		default:
			return nil, nil, api.ErrState
		}
	}
	return fresh, dry, api.OK
}

// checkColours returns why colours are not valid, or OK. Each error is looked for in all of them before the next one is.
func checkColours(colours []string) api.Errno {
	switch {
	case len(colours) > api.MaxColours:
		return api.ErrLimit
	case !areNames(colours):
		return api.ErrArg
	case hasTwice(colours):
		return api.ErrTwice
	}
	return api.OK
}

func areNames(list []string) bool {
	return !slices.ContainsFunc(list, func(x string) bool { return !isName(x) })
}

// hasTwice reports whether a string occurs twice in a list.
func hasTwice(list []string) bool {
	for i, x := range list {
		if slices.Contains(list[:i], x) {
			return true
		}
	}
	return false
}

// FirstFault returns the index of the first colour that may not lie over or beside one before it, and the Id of the rule.
func FirstFault(b api.Book, known int, colours []string) (int, int, bool) {
	k := on(b, known)
	colours = colours[:min(len(colours), api.MaxColours)]
	for i, x := range colours {
		for _, y := range colours[:i] {
			if may, id := k.mayOver(x, y); !may {
				return i, id, true
			}
			if may, id := k.mayBeside(x, y); !may {
				return i, id, true
			}
		}
	}
	return 0, 0, false
}

// Arrange returns the first order of colours in which none lies over one that it may not lie over.
func Arrange(b api.Book, known int, colours []string) ([]string, bool, api.Errno) {
	p, e := precede(b, known, colours)
	if e != api.OK {
		return nil, false, e
	}
	for order := range p.orders {
		return named(colours, order), true, api.OK
	}
	return nil, false, api.OK
}

// Stuck returns the first of the shortest circles of colours, of which each one has to come before the next one.
func Stuck(b api.Book, known int, colours []string) ([]string, bool, api.Errno) {
	p, e := precede(b, known, colours)
	if e != api.OK {
		return nil, false, e
	}
	for size := 2; size <= p.count; size++ {
		for circle := range p.circles(size) {
			return named(colours, circle), true, api.OK
		}
	}
	return nil, false, api.OK
}

// named returns the colours with some indices.
func named(colours []string, indices []int) []string {
	var out []string
	for _, i := range indices {
		out = append(out, colours[i])
	}
	return out
}

func (k knowledge) mayOver(x, y string) (bool, int) {
	upper, lower := k.groups(x), k.groups(y)
	return k.allows(func(r api.Rule) bool { return r.Kind == api.RuleOver && upper[r.X] && lower[r.Y] })
}

func (k knowledge) mayBeside(x, y string) (bool, int) {
	one, other := k.groups(x), k.groups(y)
	return k.allows(func(r api.Rule) bool {
		return r.Kind == api.RuleBeside && (one[r.X] && other[r.Y] || other[r.X] && one[r.Y])
	})
}

// allows reports whether no rule forbids something, and returns the Id of the first one that does.
func (k knowledge) allows(forbids func(r api.Rule) bool) (bool, int) {
	place := slices.IndexFunc(k.rules, forbids)
	if place < 0 {
		return true, 0
	}
	return false, k.rules[place].Id
}
