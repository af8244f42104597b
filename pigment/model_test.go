package pigment_test

import (
	"math/big"
	"slices"

	"giornata/api"
)

// model is what a book means on a day by the words of the chapter alone: the rules that count, and all pairs of a name and a group of it.
type model struct {
	rules []api.Rule
	in    map[[2]string]bool
}

// wellFormed spells out the table of the chapter.
func wellFormed(r api.Rule) bool {
	name := func(s string) bool {
		inside := "abcdefghijklmnopqrstuvwxyz0123456789-"
		for i := range len(s) {
			if !slices.Contains([]byte(inside), s[i]) {
				return false
			}
		}
		return len(s) >= 1 && len(s) <= 24 && slices.Contains([]byte(inside[:26]), s[0])
	}
	id := func(n int) bool { return 1 <= n && n <= 1000000 }
	one := name(r.X) && r.Y == "" && r.Of == 0
	two := name(r.X) && name(r.Y) && r.Of == 0
	is := map[uint8]bool{1: one, 2: one, 3: two, 4: two, 5: two && r.X != r.Y, 6: r.X == "" && r.Y == "" && id(r.Of) && r.Of != r.Id}
	return is[r.Kind] && id(r.Id) && 0 <= r.Known && r.Known <= 100000
}

func modelOf(b api.Book, known int) model {
	m := model{in: map[[2]string]bool{}}
	for _, r := range b.Rules {
		isVoid := slices.ContainsFunc(b.Rules, func(v api.Rule) bool {
			return wellFormed(v) && v.Kind == api.RuleVoid && v.Known <= known && v.Of == r.Id
		})
		if wellFormed(r) && r.Known <= known && r.Kind != api.RuleVoid && !isVoid {
			m.rules = append(m.rules, r)
		}
	}
	for _, x := range append(allNames(b), strange...) {
		m.in[[2]string{x, x}] = true
	}
	for grows := true; grows; {
		grows = false
		for x := range m.in {
			for _, r := range m.rules {
				if r.Kind == api.RuleGroup && r.X == x[1] && !m.in[[2]string{x[0], r.Y}] {
					m.in[[2]string{x[0], r.Y}], grows = true, true
					break
				}
			}
			if grows {
				break // the map is ranged over anew when it has grown
			}
		}
	}
	return m
}

// strange are names that no book has, and strings that are no names.
var strange = []string{"nothing", "", "A", "a b", "\xff", "-"}

// allNames returns all names of well-formed rules, ascending.
func allNames(b api.Book) []string {
	var out []string
	for _, r := range b.Rules {
		for _, x := range []string{r.X, r.Y} {
			if wellFormed(r) && x != "" {
				out = append(out, x)
			}
		}
	}
	slices.Sort(out)
	return slices.Compact(out)
}

func (m model) belongs(x, y string) bool { return m.in[[2]string{x, y}] }

func (m model) groups(x string) []string {
	var out []string
	for pair := range m.in {
		if pair[0] == x {
			out = append(out, pair[1])
		}
	}
	slices.Sort(out)
	return out
}

// why returns the Ids of rules of a kind that are about a name, ascending and once each.
func (m model) why(x string, kinds ...uint8) []int {
	var out []int
	for _, r := range m.rules {
		if slices.Contains(kinds, r.Kind) && m.belongs(x, r.X) {
			out = append(out, r.Id)
		}
	}
	slices.Sort(out)
	return slices.Compact(out)
}

func (m model) state(x string) uint8 {
	fresh, dry := len(m.why(x, api.RuleFast)) > 0, len(m.why(x, api.RuleDry)) > 0
	return map[[2]bool]uint8{{true, false}: 1, {false, true}: 2, {true, true}: 3}[[2]bool{fresh, dry}]
}

// chain returns the places of the first of the shortest chains from x to y, by looking at all chains without a name twice.
func (m model) chain(x, y string) ([]int, bool) {
	var best []int
	found := false
	var extend func(at string, seen []string, places []int)
	extend = func(at string, seen []string, places []int) {
		if at == y {
			if !found || len(places) < len(best) || len(places) == len(best) && slices.Compare(places, best) < 0 {
				best, found = places, true
			}
			return
		}
		for i, r := range m.rules {
			if r.Kind == api.RuleGroup && r.X == at && !slices.Contains(seen, r.Y) {
				extend(r.Y, slices.Concat(seen, []string{r.Y}), slices.Concat(places, []int{i}))
			}
		}
	}
	extend(x, []string{x}, nil)
	return best, found
}

// firstRule returns the Id of the first rule of a kind about x and y, also about y and x if both is said.
func (m model) firstRule(kind uint8, x, y string, both bool) (bool, int) {
	for _, r := range m.rules {
		about := m.belongs(x, r.X) && m.belongs(y, r.Y)
		if both {
			about = about || m.belongs(y, r.X) && m.belongs(x, r.Y)
		}
		if r.Kind == kind && about {
			return false, r.Id
		}
	}
	return true, 0
}

func (m model) mayOver(x, y string) (bool, int) { return m.firstRule(api.RuleOver, x, y, false) }

func (m model) mayBeside(x, y string) (bool, int) { return m.firstRule(api.RuleBeside, x, y, true) }

// forbids reports whether the first one of two names may not lie over the other one.
func (m model) forbids(x, y string) bool {
	may, _ := m.mayOver(x, y)
	return !may
}

// lists returns all lists of different places below n, shorter ones first, then first ones first.
func lists(n int) [][]int {
	out := [][]int{nil}
	for i := 0; i < len(out); i++ {
		for place := range n {
			if !slices.Contains(out[i], place) {
				out = append(out, slices.Concat(out[i], []int{place}))
			}
		}
	}
	return out
}

// subsets returns all ascending lists of 1 to 4 places below n, shorter ones first, then first ones first.
func subsets(n int) [][]int {
	out := [][]int{nil}
	for i := 0; i < len(out) && len(out[i]) < 4; i++ {
		for place := range n {
			if len(out[i]) == 0 || place > out[i][len(out[i])-1] {
				out = append(out, slices.Concat(out[i], []int{place}))
			}
		}
	}
	return out[1:]
}

// shares returns the parts of some tints in a shade, if exactly one sum of parts of these tints has it and is 1; they may be less than 0.
func shares(t []api.Tint, places []int, shade [3]int) ([]*big.Rat, bool) {
	// One equation for the sum and one for each number of the shade; the last column is what is wanted.
	rows := make([][]*big.Rat, 4)
	for i := range rows {
		number := func(s [3]int) *big.Rat {
			if i == 0 {
				return big.NewRat(1, 1)
			}
			return big.NewRat(int64(s[i-1]), 1)
		}
		for _, place := range places {
			rows[i] = append(rows[i], number(t[place].Shade))
		}
		rows[i] = append(rows[i], number(shade))
	}
	for column := range places {
		pivot := slices.IndexFunc(rows[column:], func(row []*big.Rat) bool { return row[column].Sign() != 0 })
		if pivot < 0 {
			return nil, false
		}
		rows[column], rows[column+pivot] = rows[column+pivot], rows[column]
		for i := range rows {
			if i != column {
				subtract(rows[i], rows[column], new(big.Rat).Quo(rows[i][column], rows[column][column]))
			}
		}
	}
	var out []*big.Rat
	for i := range rows {
		if i < len(places) {
			out = append(out, new(big.Rat).Quo(rows[i][len(places)], rows[i][i]))
		} else if rows[i][len(places)].Sign() != 0 {
			return nil, false
		}
	}
	return out, true
}

// subtract subtracts a multiple of a row from another one.
func subtract(row, other []*big.Rat, times *big.Rat) {
	for j := range row {
		row[j] = new(big.Rat).Sub(row[j], new(big.Rat).Mul(other[j], times))
	}
}

// mixtures returns all recipes of free tints that give a shade, those of fewer tints first, then those of first tints.
func mixtures(t []api.Tint, shade [3]int) []api.Recipe {
	var out []api.Recipe
	for _, places := range subsets(len(t)) {
		parts, is := shares(t, places, shade)
		if is && !slices.ContainsFunc(parts, func(x *big.Rat) bool { return x.Sign() <= 0 }) {
			out = append(out, weighed(places, parts))
		}
	}
	return out
}

// weighed returns the recipe of tints with parts that are greater than 0.
func weighed(places []int, parts []*big.Rat) api.Recipe {
	whole := big.NewInt(1)
	for _, x := range parts {
		divisor := new(big.Int).GCD(nil, nil, whole, x.Denom())
		whole = new(big.Int).Div(new(big.Int).Mul(whole, x.Denom()), divisor)
	}
	var r api.Recipe
	for i, x := range parts {
		weight := new(big.Rat).Mul(x, new(big.Rat).SetInt(whole))
		r.Parts = append(r.Parts, api.Part{Tint: places[i], Weight: int(weight.Num().Int64())})
	}
	return r
}

// average returns the average of numbers of the tints of a recipe.
func average(t []api.Tint, r api.Recipe, number func(x api.Tint) int) *big.Rat {
	sum, whole := big.NewInt(0), big.NewInt(0)
	for _, x := range r.Parts {
		weight := big.NewInt(int64(x.Weight))
		whole.Add(whole, weight)
		sum.Add(sum, new(big.Int).Mul(weight, big.NewInt(int64(number(t[x.Tint])))))
	}
	return new(big.Rat).SetFrac(sum, whole)
}

func priceOf(t []api.Tint, r api.Recipe) *big.Rat {
	return average(t, r, func(x api.Tint) int { return x.Price })
}

// cheapest returns the first of the cheapest recipes of free tints.
func cheapest(t []api.Tint, shade [3]int) api.Recipe {
	var best api.Recipe
	for _, r := range mixtures(t, shade) {
		if len(best.Parts) == 0 || priceOf(t, r).Cmp(priceOf(t, best)) < 0 {
			best = r
		}
	}
	return best
}

// isFrac reports whether a fraction is in lowest terms and equal to a rational number.
func isFrac(f api.Frac, x *big.Rat) bool {
	return f.Den > 0 && x.Num().Cmp(big.NewInt(int64(f.Num))) == 0 && x.Denom().Cmp(big.NewInt(int64(f.Den))) == 0
}
