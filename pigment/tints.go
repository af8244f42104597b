package pigment

import (
	"math/bits"
	"slices"

	"giornata/api"
)

// Limits of the chapter that package api does not name.
const (
	maxTintPrice = 10000
	maxWeight    = 1000000000000
)

// sums are the sum of the weights of a recipe, and the sums of the shades and prices times the weights.
type sums struct {
	weight int
	shade  vector
	price  int
}

// Mix returns the shade of a recipe.
func Mix(t []api.Tint, r api.Recipe) ([3]api.Frac, api.Errno) {
	if e := checkRecipe(t, r); e != api.OK {
		return [3]api.Frac{}, e
	}
	s := sumsOf(t, r)
	var shade [3]api.Frac
	for i := range shade {
		shade[i] = fraction(s.shade[i], s.weight)
	}
	return shade, api.OK
}

// Price returns the price of a recipe.
func Price(t []api.Tint, r api.Recipe) (api.Frac, api.Errno) {
	if e := checkRecipe(t, r); e != api.OK {
		return api.Frac{}, e
	}
	return price(t, r), api.OK
}

// checkTints returns why tints are not valid, or OK. Each error is looked for in all of them before the next one is.
func checkTints(t []api.Tint) api.Errno {
	if len(t) > api.MaxTints {
		return api.ErrLimit
	}
	if len(t) == 0 {
		return api.ErrArg
	}
	var names []string
	for _, x := range t {
		if !isTint(x) {
			return api.ErrArg
		}
		names = append(names, x.Name)
	}
	if hasTwice(names) {
		return api.ErrTwice
	}
	return api.OK
}

func isTint(x api.Tint) bool {
	return isName(x.Name) && isShade(x.Shade) && x.Price >= 0 && x.Price <= maxTintPrice
}

// checkRecipe returns why tints or a recipe of them are not valid, or OK.
func checkRecipe(t []api.Tint, r api.Recipe) api.Errno {
	if e := checkTints(t); e != api.OK {
		return e
	}
	if !isRecipe(t, r) {
		return api.ErrArg
	}
	return api.OK
}

// checkWanted returns why tints or a shade that is wanted are not valid, or OK.
func checkWanted(t []api.Tint, want vector) api.Errno {
	if e := checkTints(t); e != api.OK {
		return e
	}
	if !isShade(want) {
		return api.ErrArg
	}
	return api.OK
}

func isShade(v vector) bool {
	return !slices.ContainsFunc(v[:], func(n int) bool { return n < 0 || n > api.MaxShade })
}

// isRecipe reports whether a recipe of valid tints is valid.
func isRecipe(t []api.Tint, r api.Recipe) bool {
	if len(r.Parts) < 1 || len(r.Parts) > api.MaxParts {
		return false
	}
	last, divisor := -1, 0
	for _, x := range r.Parts {
		if x.Tint <= last || x.Tint >= len(t) || x.Weight < 1 || x.Weight > maxWeight {
			return false
		}
		last, divisor = x.Tint, gcd(divisor, x.Weight)
	}
	return divisor == 1
}

// gives reports whether a valid recipe gives a shade.
func gives(t []api.Tint, r api.Recipe, want vector) bool {
	s := sumsOf(t, r)
	return s.shade == want.times(s.weight)
}

func price(t []api.Tint, r api.Recipe) api.Frac {
	s := sumsOf(t, r)
	return fraction(s.price, s.weight)
}

func sumsOf(t []api.Tint, r api.Recipe) sums {
	var s sums
	for _, x := range r.Parts {
		tint := t[x.Tint]
		s.weight += x.Weight
		s.shade = s.shade.plus(vector(tint.Shade).times(x.Weight))
		s.price += tint.Price * x.Weight
	}
	return s
}

// fraction returns a fraction in lowest terms, of numbers of which the second one is greater than 0.
func fraction(num, den int) api.Frac {
	divisor := gcd(max(num, -num), den)
	return api.Frac{Num: num / divisor, Den: den / divisor}
}

// gcd returns the greatest common divisor of two numbers that are not negative, of which at most one is 0.
func gcd(a, b int) int {
	for b != 0 {
		a, b = b, a%b
	}
	return a
}

// isLess compares two fractions that are not negative; their products may have up to 128 bits.
func isLess(x, y api.Frac) bool {
	high, low := bits.Mul64(uint64(x.Num), uint64(y.Den))
	otherHigh, otherLow := bits.Mul64(uint64(y.Num), uint64(x.Den))
	return high < otherHigh || high == otherHigh && low < otherLow
}
