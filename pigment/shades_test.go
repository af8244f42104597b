package pigment_test

import (
	"math/big"
	"slices"
	"testing"

	"giornata/api"
	"giornata/pigment"
)

// F13: the chapter's shades, and the first ones of the fewest tints.
func TestReach(t *testing.T) {
	tints := chapterTints()
	for _, x := range []struct {
		shade [3]int
		r     api.Recipe
	}{
		{shadeOf(5, 0, 0), recipe(3, 1)}, {shadeOf(2, 2, 0), recipe(0, 3, 1, 1, 2, 1)}, {shadeOf(0, 0, 0), recipe(0, 1)}, {shadeOf(4, 0, 0), recipe(0, 3, 1, 2)}, {shadeOf(6, 0, 0), recipe(0, 2, 1, 3)},
		{shadeOf(0, 7, 0), recipe(0, 3, 2, 7)}, {shadeOf(9, 1, 0), recipe(1, 9, 2, 1)}, {shadeOf(4, 2, 0), recipe(2, 1, 3, 4)},
	} {
		wants(t, "Reach", of(pigment.Reach(tints, x.shade)), x.r, true, api.OK)
	}
	for _, shade := range [][3]int{{0, 0, 1}, {11, 0, 0}, {9, 2, 0}, {0, 11, 0}, {1000, 1000, 1000}, {2, 2, 1}} {
		wants(t, "Reach", of(pigment.Reach(tints, shade)), api.Recipe{}, false, api.OK)
	}
	alike := []api.Tint{tint("x", 9, 1, 1, 1), tint("b", 5, 7, 7, 7), tint("a", 1, 7, 7, 7)}
	wants(t, "Reach of a shade that two tints have", of(pigment.Reach(alike, shadeOf(7, 7, 7))), recipe(1, 1), true, api.OK)
	wants(t, "Reach of a shade between", of(pigment.Reach(alike, shadeOf(3, 3, 3))), recipe(0, 2, 1, 1), true, api.OK)
	wide := []api.Tint{tint("a", 0, 0, 0, 0), tint("b", 0, 1000, 1000, 0), tint("c", 0, 1000, 0, 1000), tint("d", 0, 0, 1000, 1000)}
	wants(t, "Reach of four far tints", of(pigment.Reach(wide, shadeOf(999, 2, 1))), recipe(), false, api.OK)
	wants(t, "Reach inside four far tints", of(pigment.Reach(wide, shadeOf(499, 502, 501))), recipe(0, 249, 1, 250, 2, 249, 3, 252), true, api.OK)
	cube := []api.Tint{tint("a", 0, 1000, 0, 0), tint("b", 0, 0, 1000, 0), tint("c", 0, 0, 0, 1000), tint("d", 0, 1000, 1000, 1000)}
	wants(t, "Reach with the greatest weights", of(pigment.Reach(cube, shadeOf(334, 334, 333))), recipe(0, 667, 1, 667, 2, 665, 3, 1), true, api.OK)
}

// F16: the chapter's shades, and the first one of the least price, the fewest tints, the first tints.
func TestCheapest(t *testing.T) {
	tints := chapterTints()
	for _, x := range []struct {
		t     []api.Tint
		shade [3]int
		r     api.Recipe
	}{
		{tints, shadeOf(5, 0, 0), recipe(3, 1)}, {tints, shadeOf(10, 0, 0), recipe(1, 1)}, {tints, shadeOf(4, 0, 0), recipe(0, 1, 3, 4)}, {tints, shadeOf(2, 2, 0), recipe(0, 2, 2, 1, 3, 2)},
		{[]api.Tint{tint("x", 9, 1, 1, 1), tint("b", 5, 7, 7, 7), tint("a", 1, 7, 7, 7)}, shadeOf(7, 7, 7), recipe(2, 1)},
		{[]api.Tint{tint("x", 9, 1, 1, 1), tint("b", 1, 7, 7, 7), tint("a", 1, 7, 7, 7)}, shadeOf(7, 7, 7), recipe(1, 1)},
		// The price of the tint itself is that of a mixture before it.
		{[]api.Tint{tint("a", 2, 0, 0, 0), tint("b", 4, 2, 0, 0), tint("c", 3, 1, 0, 0)}, shadeOf(1, 0, 0), recipe(2, 1)},
		{[]api.Tint{tint("a", 2, 0, 0, 0), tint("b", 4, 2, 0, 0), tint("c", 2, 4, 0, 0), tint("d", 5, 0, 0, 4)}, shadeOf(1, 0, 0), recipe(0, 3, 2, 1)},
		{[]api.Tint{tint("a", 1, 0, 0, 0), tint("b", 1, 2, 0, 0), tint("c", 1, 0, 2, 0), tint("d", 1, 2, 2, 0)}, shadeOf(1, 1, 0), recipe(0, 1, 3, 1)},
		{[]api.Tint{tint("a", 1, 0, 0, 0), tint("b", 1, 2, 0, 0), tint("c", 0, 0, 2, 0), tint("d", 1, 2, 2, 0)}, shadeOf(1, 1, 0), recipe(1, 1, 2, 1)},
		{[]api.Tint{tint("free", 0, 5, 5, 5)}, shadeOf(5, 5, 5), recipe(0, 1)},
	} {
		r, dual, e := pigment.Cheapest(x.t, x.shade)
		wants(t, "Cheapest", of(r, e), x.r, api.OK)
		wants(t, "CheckCheapest", of(pigment.CheckCheapest(x.t, x.shade, r, dual)), true, api.OK)
	}
	wants(t, "Cheapest of a shade far off", of(pigment.Cheapest(tints, shadeOf(0, 0, 1))), api.Recipe{}, api.Dual{}, api.ErrFar)
	wants(t, "Cheapest of another shade than the one tint's", of(pigment.Cheapest(tints[:1], shadeOf(0, 1, 0))), api.Recipe{}, api.Dual{}, api.ErrFar)
}

// F17: each thing that a dual and a recipe have to be.
func TestCheckCheapest(t *testing.T) {
	tints := chapterTints() // prices on the x axis: 4 at 0, 5 at 5, 8 at 10; 6 at (0, 10)
	dual := func(den int, num ...int) api.Dual {
		return api.Dual{Num: [4]int{num[0], num[1], num[2], num[3]}, Den: den}
	}
	good := dual(5, 20, 1, 1, 0)
	for _, x := range []struct {
		name  string
		shade [3]int
		r     api.Recipe
		d     api.Dual
		is    bool
	}{
		{"a dual", shadeOf(2, 2, 0), recipe(0, 2, 2, 1, 3, 2), good, true},
		{"the same dual with greater numbers", shadeOf(2, 2, 0), recipe(0, 2, 2, 1, 3, 2), dual(50, 200, 10, 10, 0), true},
		{"a dual for no tint's third number", shadeOf(2, 2, 0), recipe(0, 2, 2, 1, 3, 2), dual(5, 20, 1, 1, -1000000000000000), true},
		{"a recipe of the least price that is not free", shadeOf(5, 0, 0), recipe(3, 1), dual(5, 20, 1, 0, 0), true},
		{"a dual of another slope", shadeOf(5, 0, 0), recipe(3, 1), dual(5, 10, 3, 0, 0), true},
		{"the greatest denominator", shadeOf(5, 0, 0), recipe(3, 1), dual(1000000000000, 4000000000000, 200000000000, 0, 0), true},
		{"the greatest denominator of a dual without a slope", shadeOf(0, 0, 0), recipe(0, 1), dual(1000000000000, 4000000000000, 0, 0, 0), true},
		{"a greater denominator", shadeOf(0, 0, 0), recipe(0, 1), dual(1000000000001, 4000000000004, 0, 0, 0), false},
		{"a denominator of 0", shadeOf(5, 0, 0), recipe(3, 1), dual(0, 0, 0, 0, 0), false},
		{"a denominator below 0", shadeOf(5, 0, 0), recipe(3, 1), dual(-5, -20, -1, 0, 0), false},
		{"a first number out of range", shadeOf(5, 0, 0), recipe(3, 1), dual(1000000000000, 1000000000000001, 0, 0, 0), false},
		{"a third number out of range", shadeOf(2, 2, 0), recipe(0, 2, 2, 1, 3, 2), dual(5, 20, 1, 1, -1000000000000001), false},
		{"a last number out of range", shadeOf(2, 2, 0), recipe(0, 2, 2, 1, 3, 2), dual(5, 20, 1, 1, 1000000000000001), false},
		{"numbers that overflow", shadeOf(2, 2, 0), recipe(0, 2, 2, 1, 3, 2), dual(huge, tiny, huge, huge, tiny), false},
		{"a tint above its price", shadeOf(2, 2, 0), recipe(0, 2, 2, 1, 3, 2), dual(5, 19, 2, 1, 0), false},
		{"a dual of less than the price", shadeOf(2, 2, 0), recipe(0, 2, 2, 1, 3, 2), dual(5, 19, 1, 1, 0), false},
		{"a recipe that costs more", shadeOf(2, 2, 0), recipe(0, 3, 1, 1, 2, 1), good, false},
		{"a recipe of another shade", shadeOf(2, 2, 0), recipe(0, 2, 2, 1, 3, 1), good, false},
		{"a recipe of one other number", shadeOf(2, 2, 1), recipe(0, 2, 2, 1, 3, 2), good, false},
		{"another tint of the same price", shadeOf(5, 0, 0), recipe(0, 1), dual(1, 4, 0, 0, 0), false},
		{"the recipe with greater weights", shadeOf(2, 2, 0), recipe(0, 4, 2, 2, 3, 4), good, false},
		{"no recipe", shadeOf(2, 2, 0), recipe(), good, false},
	} {
		wants(t, "CheckCheapest of "+x.name, of(pigment.CheckCheapest(tints, x.shade, x.r, x.d)), x.is, api.OK)
	}
	for _, r := range badRecipes {
		wants(t, "CheckCheapest of a wrong recipe", of(pigment.CheckCheapest(tints, shadeOf(0, 0, 0), r, dual(1, 4, 0, 0, 0))), false, api.OK)
	}
	wants(t, "CheckCheapest of a recipe that is not free", of(pigment.CheckCheapest([]api.Tint{tint("a", 1, 0, 0, 0), tint("b", 1, 2, 0, 0), tint("c", 1, 4, 0, 0)}, shadeOf(2, 0, 0), recipe(0, 1, 1, 1, 2, 1), dual(1, 1, 0, 0, 0))), true, api.OK)
	greatest := []api.Tint{tint("a", 10000, 1000, 1000, 1000)}
	wants(t, "CheckCheapest with the greatest numbers", of(pigment.CheckCheapest(greatest, shadeOf(1000, 1000, 1000), recipe(0, 1), dual(1, 1000000000000000, 1000000000000000, 1000000000000000, 1000000000000000))), false, api.OK)
	wants(t, "CheckCheapest with the least numbers", of(pigment.CheckCheapest(greatest, shadeOf(1000, 1000, 1000), recipe(0, 1), dual(1, -1000000000000000, -1000000000000000, -1000000000000000, -1000000000000000))), false, api.OK)
	wants(t, "CheckCheapest with great numbers that cancel out", of(pigment.CheckCheapest(greatest, shadeOf(1000, 1000, 1000), recipe(0, 1), dual(1, 10000, 1000000000000000, -1000000000000000, 0))), true, api.OK)
}

// inside returns a shade that some mixture of tints has, if the dice find one, or else any one.
func (d *dice) inside(t []api.Tint, most int) [3]int {
	for range 20 {
		var shade [3]int
		r := d.recipe(len(t))
		for i := range shade {
			x := average(t, r, func(x api.Tint) int { return x.Shade[i] })
			shade[i] = int(new(big.Int).Quo(x.Num(), x.Denom()).Int64())
		}
		if len(mixtures(t, shade)) > 0 {
			return shade
		}
	}
	return d.shade(most)
}

// F13, F14, F16, P6.7: small shades, so that many tints are not free, are what the model says.
func TestSmallShades(t *testing.T) {
	d := &dice{10}
	reached := 0
	for i := range 600 {
		most := 1 + d.roll(6)
		tints := d.tints(1+d.roll(7), most)
		for j := range tints {
			tints[j].Price = d.roll(1 + i%8)
			if i%5 == 0 {
				tints[j].Shade[2] = 3
			}
			if i%10 == 0 {
				tints[j].Shade[1] = tints[j].Shade[0]
			}
		}
		shade := d.shade(most)
		if i%3 > 0 {
			shade = d.inside(tints, most)
		}
		all := mixtures(tints, shade)
		r, is, e := pigment.Reach(tints, shade)
		plane, shows, f := pigment.Plane(tints, shade)
		best, dual, g := pigment.Cheapest(tints, shade)
		want(t, "errors", of(e, f), of(api.OK, api.OK))
		want(t, "exactly one of Reach and Plane", is != shows, true)
		want(t, "whether Plane shows it", pigment.CheckPlane(tints, shade, plane), shows)
		if len(all) == 0 {
			wants(t, "nothing", of(r, is, best, dual, g), api.Recipe{}, false, api.Recipe{}, api.Dual{}, api.ErrFar)
			continue
		}
		reached++
		wants(t, "Reach", of(r, is), all[0], true)
		wants(t, "Plane", of(plane, shows), api.Plane{}, false)
		wants(t, "Cheapest", of(best, g), cheapest(tints, shade), api.OK)
		wants(t, "CheckCheapest", of(pigment.CheckCheapest(tints, shade, best, dual)), true, api.OK)
		for _, other := range all {
			wants(t, "CheckCheapest of others", of(pigment.CheckCheapest(tints, shade, other, dual)), priceOf(tints, other).Cmp(priceOf(tints, best)) == 0, api.OK)
		}
	}
	want(t, "many shades are reached, and many are not", reached > 400 && reached < 500, true)
}

// corners returns twelve tints of which the numbers are the least and the greatest ones, or beside them.
func (d *dice) corners() []api.Tint {
	edge := func(most int) int { return []int{0, 1, most / 2, most - 1, most, most}[d.roll(6)] }
	tints := d.tints(12, 1000)
	for i := range tints {
		if d.roll(4) > 0 {
			tints[i].Shade = shadeOf(edge(1000), edge(1000), edge(1000))
		}
		tints[i].Price = edge(10000)
	}
	return tints
}

// F13 to F17, P6.7: shades of twelve tints over the whole range, of which recipes, planes and duals have the greatest numbers.
func TestGreatShades(t *testing.T) {
	d := &dice{11}
	for i := range 250 {
		tints := d.corners()
		shade := d.shade(1000)
		if i%2 == 0 {
			shade = d.corners()[0].Shade
		}
		if i%7 == 0 {
			tints = tints[:1+d.roll(4)]
		}
		r, is, _ := pigment.Reach(tints, shade)
		plane, shows, _ := pigment.Plane(tints, shade)
		want(t, "exactly one of Reach and Plane", is != shows, true)
		want(t, "whether Plane shows it", pigment.CheckPlane(tints, shade, plane), shows)
		best, dual, e := pigment.Cheapest(tints, shade)
		want(t, "whether there is a cheapest one", e == api.OK, is)
		if !is {
			continue
		}
		wants(t, "CheckCheapest", of(pigment.CheckCheapest(tints, shade, best, dual)), true, api.OK)
		for _, x := range []api.Recipe{r, best} {
			for j := range shade {
				want(t, "a number of the shade", average(tints, x, func(x api.Tint) int { return x.Shade[j] }).Cmp(big.NewRat(int64(shade[j]), 1)), 0)
			}
		}
		want(t, "a recipe is cheaper than the cheapest one", priceOf(tints, r).Cmp(priceOf(tints, best)) < 0, false)
		if i%5 == 0 {
			want(t, "Reach", r, mixtures(tints, shade)[0])
			want(t, "Cheapest", best, cheapest(tints, shade))
		}
	}
}

// F16: prices that differ by so little that the products of their fractions need more than 64 bits.
func TestNearPrices(t *testing.T) {
	d := &dice{12}
	for range 40 {
		tints := d.tints(7, 1000)
		for i := range tints {
			tints[i].Price = 9990 + d.roll(11)
		}
		shade := shadeOf(400+d.roll(200), 400+d.roll(200), 400+d.roll(200))
		r, dual, e := pigment.Cheapest(tints, shade)
		if e == api.ErrFar {
			continue
		}
		want(t, "Cheapest", r, cheapest(tints, shade))
		wants(t, "CheckCheapest", of(pigment.CheckCheapest(tints, shade, r, dual)), true, api.OK)
		others := slices.DeleteFunc(mixtures(tints, shade), func(x api.Recipe) bool { return same(x, r) })
		for _, x := range others {
			wants(t, "CheckCheapest of another one", of(pigment.CheckCheapest(tints, shade, x, dual)), priceOf(tints, x).Cmp(priceOf(tints, r)) == 0, api.OK)
		}
	}
}
