package pigment

import (
	"slices"

	"giornata/api"
)

// State returns the state of a name on a day.
func State(b api.Book, known int, x string) uint8 { return on(b, known).state(x) }

// Why returns the Ids of the rules from which the state of a name comes.
func Why(b api.Book, known int, x string) []int {
	var ids []int
	for _, r := range on(b, known).reasons(x) {
		ids = append(ids, r.Id)
	}
	slices.Sort(ids)
	return slices.Compact(ids)
}

// Contrary returns the names that rules call both fresh and dry.
func Contrary(b api.Book, known int) []string {
	k := on(b, known)
	return slices.DeleteFunc(namesOf(k.rules), func(x string) bool { return k.state(x) != api.PigContrary })
}

// Effect returns the names whose state changes from one day to another one.
func Effect(b api.Book, from, to int) []string {
	before, after := on(b, from), on(b, to)
	names := namesOf(slices.DeleteFunc(slices.Clone(b.Rules), func(r api.Rule) bool { return !isWellFormed(r) }))
	return slices.DeleteFunc(names, func(x string) bool { return before.state(x) == after.state(x) })
}

// reasons returns the rules about a name that call it fresh or dry.
func (k knowledge) reasons(x string) []api.Rule {
	groups := k.groups(x)
	return slices.DeleteFunc(slices.Clone(k.rules), func(r api.Rule) bool {
		return r.Kind != api.RuleFast && r.Kind != api.RuleDry || !groups[r.X]
	})
}

func (k knowledge) state(x string) uint8 {
	reasons := k.reasons(x)
	fast := slices.ContainsFunc(reasons, func(r api.Rule) bool { return r.Kind == api.RuleFast })
	dry := slices.ContainsFunc(reasons, func(r api.Rule) bool { return r.Kind == api.RuleDry })
	switch {
	case fast && dry:
		return api.PigContrary
	case fast:
		return api.PigFresh
	case dry:
		return api.PigDry
	}
	return api.PigUnknown
}

// namesOf returns the names that occur in well-formed rules, in ascending order.
func namesOf(rules []api.Rule) []string {
	var names []string
	for _, r := range rules {
		names = append(names, r.X, r.Y)
	}
	slices.Sort(names)
	return slices.DeleteFunc(slices.Compact(names), func(x string) bool { return x == "" })
}
