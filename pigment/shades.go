package pigment

import (
	"iter"

	"giornata/api"
)

// Limits of the numbers of a dual.
const (
	maxDualNum = 1000000000000000
	maxDualDen = 1000000000000
)

// Reach returns the first recipe of the fewest tints that gives a shade.
func Reach(t []api.Tint, want [3]int) (api.Recipe, bool, api.Errno) {
	if e := checkWanted(t, want); e != api.OK {
		return api.Recipe{}, false, e
	}
	for r := range recipes(t, want) {
		return r, true, api.OK
	}
	return api.Recipe{}, false, api.OK
}

// Cheapest returns the first recipe of the least price that gives a shade, and a dual that shows that none is cheaper.
func Cheapest(t []api.Tint, want [3]int) (api.Recipe, api.Dual, api.Errno) {
	if e := checkWanted(t, want); e != api.OK {
		return api.Recipe{}, api.Dual{}, e
	}
	var best api.Recipe
	var least api.Frac
	for r := range recipes(t, want) {
		if p := price(t, r); len(best.Parts) == 0 || isLess(p, least) {
			best, least = r, p
		}
	}
	if len(best.Parts) == 0 {
		return api.Recipe{}, api.Dual{}, api.ErrFar
	}
	return best, dualOf(t, want, least), api.OK
}

// CheckCheapest returns whether a recipe gives a shade, and a dual shows that none is cheaper.
func CheckCheapest(t []api.Tint, want [3]int, r api.Recipe, d api.Dual) (bool, api.Errno) {
	if e := checkWanted(t, want); e != api.OK {
		return false, e
	}
	return isRecipe(t, r) && gives(t, r, want) && isDual(t, want, price(t, r), d), api.OK
}

// recipes yields all recipes of free tints that give a shade, those of fewer tints first, then those of first tints.
func recipes(t []api.Tint, want vector) iter.Seq[api.Recipe] {
	return func(yield func(r api.Recipe) bool) {
		for places, f := range free(t) {
			if r, is := mixture(places, f, want); is && !yield(r) {
				return
			}
		}
	}
}

// mixture returns the recipe of all tints of a frame that gives a shade, if there is one.
func mixture(places []int, f frame, want vector) (api.Recipe, bool) {
	weights := f.weights(rowOf(want))
	divisor := 0
	for i, weight := range weights {
		if (i < len(places)) != (weight > 0) || weight < 0 {
			return api.Recipe{}, false
		}
		divisor = gcd(divisor, weight)
	}
	var r api.Recipe
	for i, place := range places {
		r.Parts = append(r.Parts, api.Part{Tint: place, Weight: weights[i] / divisor})
	}
	return r, true
}

// dualOf returns the first dual that shows that no recipe for a shade is cheaper than the cheapest one. Some free tints always have one.
func dualOf(t []api.Tint, want vector, least api.Frac) api.Dual {
	for places, f := range free(t) {
		var prices [4]int
		for i, place := range places {
			prices[i] = t[place].Price
		}
		num, den := f.solve(prices)
		if d := (api.Dual{Num: num, Den: den}); isDual(t, want, least, d) {
			return d
		}
	}
	return api.Dual{}
}

// isDual reports whether a dual gives no tint more than its price, and a shade exactly the least one.
func isDual(t []api.Tint, want vector, least api.Frac, d api.Dual) bool {
	if d.Den < 1 || d.Den > maxDualDen {
		return false
	}
	for _, n := range d.Num {
		if n < -maxDualNum || n > maxDualNum {
			return false
		}
	}
	slope := vector{d.Num[1], d.Num[2], d.Num[3]}
	value := func(v vector) int { return d.Num[0] + slope.dot(v) }
	for _, x := range t {
		if value(x.Shade) > d.Den*x.Price {
			return false
		}
	}
	return fraction(value(want), d.Den) == least
}
