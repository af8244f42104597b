package pigment_test

import (
	"slices"
	"testing"

	"giornata/api"
	"giornata/pigment"
)

// twelve returns as many tints as there may be.
func twelve() []api.Tint { return (&dice{8}).tints(12, 1000) }

// tintFlaws are lists of tints that are not valid, and others.
var tintFlaws = []struct {
	name string
	t    []api.Tint
	e    api.Errno
}{
	{"of the chapter", chapterTints(), api.OK},
	{"twelve", twelve(), api.OK},
	{"at the limits", []api.Tint{tint(longest, 10000, 1000, 0, 1000), tint("a", 0, 1000, 0, 1000)}, api.OK},
	{"thirteen", append(twelve(), tint("x", 1, 1, 1, 1)), api.ErrLimit},
	{"thirteen that are not valid", make([]api.Tint, 13), api.ErrLimit},
	{"none", nil, api.ErrArg},
	{"no name", []api.Tint{tint("a", 1, 1, 1, 1), tint("A", 1, 1, 1, 1)}, api.ErrArg},
	{"an empty name", []api.Tint{tint("", 1, 1, 1, 1)}, api.ErrArg},
	{"a long name", []api.Tint{tint(longest+"a", 1, 1, 1, 1)}, api.ErrArg},
	{"a shade below 0", []api.Tint{tint("a", 1, -1, 1, 1)}, api.ErrArg},
	{"a shade above 1000", []api.Tint{tint("a", 1, 1, 1001, 1)}, api.ErrArg},
	{"a third number below 0", []api.Tint{tint("a", 1, 1, 1, -1)}, api.ErrArg},
	{"a third number far off", []api.Tint{tint("a", 1, 1, 1, huge)}, api.ErrArg},
	{"a price below 0", []api.Tint{tint("a", -1, 1, 1, 1)}, api.ErrArg},
	{"a price above 10000", []api.Tint{tint("a", 10001, 1, 1, 1)}, api.ErrArg},
	{"a name twice", []api.Tint{tint("a", 1, 1, 1, 1), tint("b", 1, 2, 1, 1), tint("a", 2, 3, 1, 1)}, api.ErrTwice},
	{"a name twice before a shade", []api.Tint{tint("a", 1, 1, 1, 1), tint("a", 2, 3, 1, 1), tint("b", 2, 3, 1, -1)}, api.ErrArg},
	{"a name twice before an empty name", []api.Tint{tint("a", 0, 0, 0, 0), tint("a", 0, 0, 0, 0), {}}, api.ErrArg},
	{"a name twice before a price", []api.Tint{tint("a", 1, 1, 1, 1), tint("a", 2, 3, 1, 1), tint("b", 10001, 3, 1, 1)}, api.ErrArg},
	{"an empty name twice", make([]api.Tint, 2), api.ErrArg},
	{"twelve with a name twice", append(twelve()[:11], twelve()[0]), api.ErrTwice},
	{"a shade before a name twice", []api.Tint{tint("a", 1, 1, 1, 1), tint("b", 2, 3, 1, -1), tint("a", 2, 3, 1, 1)}, api.ErrArg},
	{"a name twice with a shade", []api.Tint{tint("a", 1, 1, 1, 1), tint("a", 2, 3, 1, -1)}, api.ErrArg},
}

// wrongShades are no shades that may be wanted.
var wrongShades = [][3]int{{-1, 0, 0}, {0, 1001, 0}, {0, 0, -1}, {0, 0, 1001}, {huge, 0, 0}, {0, tiny, 0}}

// F12 to F17: the errors of tints and of shades that are wanted, and their order.
func TestTintErrors(t *testing.T) {
	wrong := recipe(0, 2)
	for _, x := range tintFlaws {
		if x.e == api.OK {
			for _, shade := range wrongShades {
				wants(t, "Reach of no shade", of(pigment.Reach(x.t, shade)), api.Recipe{}, false, api.ErrArg)
				wants(t, "Plane of no shade", of(pigment.Plane(x.t, shade)), api.Plane{}, false, api.ErrArg)
				wants(t, "Cheapest of no shade", of(pigment.Cheapest(x.t, shade)), api.Recipe{}, api.Dual{}, api.ErrArg)
				wants(t, "CheckCheapest of no shade", of(pigment.CheckCheapest(x.t, shade, recipe(0, 1), api.Dual{})), false, api.ErrArg)
			}
			wants(t, "Mix of no recipe", of(pigment.Mix(x.t, wrong)), [3]api.Frac{}, api.ErrArg)
			wants(t, "Price of no recipe", of(pigment.Price(x.t, wrong)), api.Frac{}, api.ErrArg)
			continue
		}
		for _, shade := range append([][3]int{{1, 1, 1}}, wrongShades...) {
			wants(t, "Reach of tints: "+x.name, of(pigment.Reach(x.t, shade)), api.Recipe{}, false, x.e)
			wants(t, "Plane of tints: "+x.name, of(pigment.Plane(x.t, shade)), api.Plane{}, false, x.e)
			wants(t, "Cheapest of tints: "+x.name, of(pigment.Cheapest(x.t, shade)), api.Recipe{}, api.Dual{}, x.e)
			wants(t, "CheckCheapest of tints: "+x.name, of(pigment.CheckCheapest(x.t, shade, recipe(0, 1), api.Dual{})), false, x.e)
		}
		for _, r := range []api.Recipe{recipe(0, 1), wrong, {}} {
			wants(t, "Mix of tints: "+x.name, of(pigment.Mix(x.t, r)), [3]api.Frac{}, x.e)
			wants(t, "Price of tints: "+x.name, of(pigment.Price(x.t, r)), api.Frac{}, x.e)
		}
	}
}

// F12: shades and prices, in lowest terms.
func TestMix(t *testing.T) {
	tints := chapterTints()
	wants(t, "Mix of a 1, c 2", of(pigment.Mix(tints, recipe(0, 1, 2, 2))), [3]api.Frac{frac(0, 1), frac(20, 3), frac(0, 1)}, api.OK)
	wants(t, "Price of a 1, c 2", of(pigment.Price(tints, recipe(0, 1, 2, 2))), frac(16, 3), api.OK)
	wants(t, "Mix of one tint", of(pigment.Mix(tints, recipe(3, 1))), [3]api.Frac{frac(5, 1), frac(0, 1), frac(0, 1)}, api.OK)
	wants(t, "Price of one tint", of(pigment.Price(tints, recipe(3, 1))), frac(5, 1), api.OK)
	wants(t, "Mix of all tints", of(pigment.Mix(tints, recipe(0, 4, 1, 3, 2, 2, 3, 1))), [3]api.Frac{frac(7, 2), frac(2, 1), frac(0, 1)}, api.OK)
	wants(t, "Price of all tints", of(pigment.Price(tints, recipe(0, 4, 1, 3, 2, 2, 3, 1))), frac(57, 10), api.OK)
	most := 1000000000000
	dear := []api.Tint{tint("a", 10000, 1000, 0, 999), tint("b", 9999, 1000, 1000, 1000), tint("c", 10000, 1000, 0, 1000), tint("d", 10000, 1000, 0, 1000)}
	wants(t, "Mix of the greatest weights", of(pigment.Mix(dear, recipe(0, most, 1, most-1, 2, most, 3, most))), [3]api.Frac{frac(1000, 1), frac(1000*(most-1)/3, (4*most-1)/3), frac(3999*most-1000, 4*most-1)}, api.OK)
	wants(t, "Price of the greatest weights", of(pigment.Price(dear, recipe(0, most, 1, most-1, 2, most, 3, most))), frac((39999*most-9999)/3, (4*most-1)/3), api.OK)
	d := &dice{9}
	for range 300 {
		l := d.tints(1+d.roll(12), 20)
		r := d.recipe(len(l))
		got, e := pigment.Mix(l, r)
		price, f := pigment.Price(l, r)
		want(t, "errors", of(e, f), of(api.OK, api.OK))
		want(t, "the price", isFrac(price, priceOf(l, r)), true)
		for i := range got {
			want(t, "a number of the shade", isFrac(got[i], average(l, r, func(x api.Tint) int { return x.Shade[i] })), true)
		}
	}
}

// recipe returns a valid recipe of n tints.
func (d *dice) recipe(n int) api.Recipe {
	all := subsets(n)
	places := all[d.roll(len(all))]
	r := recipe(places[0], 1)
	for _, place := range places[1:] {
		r.Parts = append(r.Parts, api.Part{Tint: place, Weight: 1 + d.roll(60)})
	}
	for i := len(r.Parts) - 1; i > 0; i-- {
		j := d.roll(i + 1)
		r.Parts[i].Weight, r.Parts[j].Weight = r.Parts[j].Weight, r.Parts[i].Weight
	}
	return r
}

// badRecipes are not valid for four tints.
var badRecipes = []api.Recipe{
	{}, recipe(0, 1, 1, 1, 2, 1, 3, 1, 4, 1), recipe(0, 1, 1, 1, 1, 1), recipe(1, 1, 0, 1), recipe(0, 1, 0, 1), recipe(-1, 1), recipe(4, 1), recipe(0, 1, 4, 1), recipe(huge, 1), recipe(tiny, 1),
	recipe(0, 0), recipe(0, 1, 1, 0), recipe(0, -1), recipe(0, 1, 1, -1), recipe(0, 1, 1, 1000000000001), recipe(0, 1, 1, huge), recipe(0, tiny), recipe(0, 2), recipe(0, 2, 1, 4), recipe(0, 6, 1, 10, 2, 15*2),
	recipe(0, 1000000000000), recipe(0, 3, 1, 999999999999), recipe(0, 1, 1, 2, 2, 3, 3, 4, 3, 5),
}

// F12: recipes that are not valid, and those at the limits.
func TestRecipes(t *testing.T) {
	for _, r := range badRecipes {
		wants(t, "Mix", of(pigment.Mix(chapterTints(), r)), [3]api.Frac{}, api.ErrArg)
		wants(t, "Price", of(pigment.Price(chapterTints(), r)), api.Frac{}, api.ErrArg)
	}
	for _, r := range []api.Recipe{recipe(0, 1), recipe(3, 1), recipe(0, 1, 3, 1000000000000), recipe(0, 6, 1, 10, 2, 15), recipe(0, 2, 1, 2, 2, 2, 3, 1), recipe(0, 999999999999, 1, 1000000000000)} {
		_, e := pigment.Mix(chapterTints(), r)
		_, f := pigment.Price(chapterTints(), r)
		want(t, "errors", of(e, f), of(api.OK, api.OK))
	}
	five := append(chapterTints(), tint("e", 1, 1, 1, 1))
	wants(t, "Mix of five tints", of(pigment.Mix(five, recipe(0, 1, 1, 1, 2, 1, 3, 1, 4, 1))), [3]api.Frac{}, api.ErrArg)
	want(t, "a recipe for each four tints", len(slices.DeleteFunc(subsets(5), func(l []int) bool { return len(l) != 4 })), 5)
}
