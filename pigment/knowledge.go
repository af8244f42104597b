package pigment

import (
	"maps"
	"slices"

	"giornata/api"
)

// knowledge is rules, and for each name the places of those by which it belongs to a group.
type knowledge struct {
	rules   []api.Rule
	belongs map[string][]int
}

// on returns the knowledge of a day.
func on(b api.Book, known int) knowledge { return indexed(Counting(b, known)) }

// indexed returns the knowledge of rules that count.
func indexed(rules []api.Rule) knowledge {
	k := knowledge{rules: rules, belongs: map[string][]int{}}
	for i, r := range rules {
		if r.Kind == api.RuleGroup {
			k.belongs[r.X] = append(k.belongs[r.X], i)
		}
	}
	return k
}

// Counting returns the rules that count on a day.
func Counting(b api.Book, known int) []api.Rule {
	isKnown := func(r api.Rule) bool { return isWellFormed(r) && r.Known <= known }
	withdrawn := map[int]bool{}
	for _, r := range b.Rules {
		if isKnown(r) && r.Kind == api.RuleVoid {
			withdrawn[r.Of] = true
		}
	}
	var out []api.Rule
	for _, r := range b.Rules {
		if isKnown(r) && r.Kind != api.RuleVoid && !withdrawn[r.Id] {
			out = append(out, r)
		}
	}
	return out
}

// Groups returns the groups of a name on a day.
func Groups(b api.Book, known int, x string) []string {
	return slices.Sorted(maps.Keys(on(b, known).groups(x)))
}

// Chain returns the Ids of the fewest rules by which a name belongs to a group.
func Chain(b api.Book, known int, x, y string) ([]int, bool) { return on(b, known).chain(x, y) }

// groups returns the groups of a name.
func (k knowledge) groups(x string) map[string]bool {
	found := map[string]bool{}
	var follow func(name string)
	follow = func(name string) {
		if found[name] {
			return
		}
		found[name] = true
		for _, place := range k.belongs[name] {
			follow(k.rules[place].Y)
		}
	}
	follow(x)
	return found
}

// chain returns the Ids of the fewest rules by which x belongs to y, first places first.
func (k knowledge) chain(x, y string) ([]int, bool) {
	by := map[string]int{} // the place of the rule by which a name is reached first
	reached := []string{x}
	for next := 0; next < len(reached); next++ {
		for _, place := range k.belongs[reached[next]] {
			to := k.rules[place].Y
			if _, is := by[to]; is || to == x {
				continue
			}
			by[to] = place
			reached = append(reached, to)
		}
	}
	if _, is := by[y]; !is {
		return nil, x == y
	}
	var ids []int
	for y != x {
		r := k.rules[by[y]]
		ids = append(ids, r.Id)
		y = r.X
	}
	slices.Reverse(ids)
	return ids, true
}
