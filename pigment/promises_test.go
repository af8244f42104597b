package pigment_test

import (
	"math/big"
	"slices"
	"testing"

	"giornata/api"
	"giornata/pigment"
)

// P6.2 (T5): rules that become known after a day change nothing on it.
func TestLaterRules(t *testing.T) {
	d := &dice{20}
	for range 150 {
		b, known := d.any(), d.roll(10)
		early := book(slices.DeleteFunc(slices.Clone(b.Rules), func(r api.Rule) bool { return r.Known > known })...)
		colours := d.shuffled(1 + d.roll(6))
		want(t, "what is said with and without later rules", said(b, known, colours), said(early, known, colours))
	}
}

// said returns what a book says of colours on a day.
func said(b api.Book, known int, colours []string) results {
	out := of(pigment.Counting(b, known), pigment.Contrary(b, known))
	add := func(values ...any) { out = append(out, values...) }
	for _, x := range few {
		add(pigment.Groups(b, known, x), pigment.State(b, known, x), pigment.Why(b, known, x))
		for _, y := range few {
			add(of(pigment.Chain(b, known, x, y)), of(pigment.MayBeside(b, known, x, y)), of(pigment.MayOver(b, known, x, y)))
		}
	}
	add(of(pigment.Strokes(b, known, colours)), of(pigment.FirstFault(b, known, colours)), of(pigment.Arrange(b, known, colours)), of(pigment.Stuck(b, known, colours)))
	return out
}

// P6.2: a void takes the rule that it names out of the book, from its day on.
func TestVoids(t *testing.T) {
	d := &dice{21}
	for range 150 {
		b := d.valid()
		if len(b.Rules) == 0 {
			continue
		}
		at := d.roll(len(b.Rules))
		x := b.Rules[at]
		if x.Kind == api.RuleVoid {
			continue
		}
		last := b.Rules[len(b.Rules)-1].Known
		withdrawn, e := pigment.Append(b, void(999999, last+1, x.Id))
		want(t, "the error of Append", e, api.OK)
		without := book(slices.Delete(slices.Clone(b.Rules), at, at+1)...)
		colours := d.shuffled(4)
		want(t, "what is said with the void", said(withdrawn, last+1, colours), said(without, last+1, colours))
		want(t, "what is said before the void", said(withdrawn, last, colours), said(b, last, colours))
	}
}

// P6.3: groups of groups are groups, and what is said of a group is said of all in it.
func TestGroupsOfGroups(t *testing.T) {
	d := &dice{22}
	for range 150 {
		b, known := d.any(), d.roll(10)
		for _, x := range few {
			groups := pigment.Groups(b, known, x)
			want(t, "x is in its groups", slices.Contains(groups, x), true)
			want(t, "ascending and once each", slices.IsSorted(groups) && len(slices.Compact(slices.Clone(groups))) == len(groups), true)
			for _, y := range groups {
				for _, z := range pigment.Groups(b, known, y) {
					want(t, "a group of a group", slices.Contains(groups, z), true)
				}
				for _, id := range pigment.Why(b, known, y) {
					want(t, "a reason of a group", slices.Contains(pigment.Why(b, known, x), id), true)
				}
				heeds(t, b, known, x, y)
			}
		}
	}
}

// heeds checks that what a name may not lie over or beside, one that belongs to it may not either, and the other way round.
func heeds(t *testing.T, b api.Book, known int, x, group string) {
	t.Helper()
	for _, other := range few {
		for _, may := range []func(b api.Book, known int, x, y string) (bool, int){pigment.MayOver, pigment.MayBeside} {
			if is, _ := may(b, known, group, other); !is {
				is, _ = may(b, known, x, other)
				want(t, "what is forbidden for a group", is, false)
			}
			if is, _ := may(b, known, other, group); !is {
				is, _ = may(b, known, other, x)
				want(t, "what is forbidden to a group", is, false)
			}
		}
	}
}

// P6.4 (T5): strokes are all colours, once each, in their order, by their states.
func TestAllStrokes(t *testing.T) {
	d := &dice{23}
	laid := 0
	for range 600 {
		b, known := d.valid(), d.roll(12)
		for _, x := range few {
			if d.roll(3) > 0 {
				b.Rules = append(b.Rules, []api.Rule{fast(90+len(b.Rules), 0, x), dry(90+len(b.Rules), 0, x)}[d.roll(2)])
			}
		}
		colours := d.shuffled(1 + d.roll(4))
		fresh, dry, e := pigment.Strokes(b, known, colours)
		var wet, late []string
		wanted := api.OK
		for _, x := range colours {
			switch modelOf(b, known).state(x) {
			case api.PigFresh:
				wet = append(wet, x)
			case api.PigDry:
				late = append(late, x)
			default:
				wanted = api.ErrState
			}
		}
		if wanted != api.OK {
			wet, late = nil, nil
		} else {
			laid++
		}
		want(t, "Strokes", of(fresh, dry, e), of(wet, late, wanted))
	}
	want(t, "many are laid", laid > 50, true)
}

// P6.5: the order has the colours once each, and none over one before it that it may not lie over; the circle is one.
func TestOrdersOfEight(t *testing.T) {
	d := &dice{24}
	all := append(slices.Clone(few), "g", "h")
	arranged := 0
	for range 300 {
		var b api.Book
		for i := range d.roll(16) {
			b.Rules = append(b.Rules, over(1+i, 0, d.one(all), d.one(all)))
		}
		order, is, e := pigment.Arrange(b, 0, all)
		circle, stays, f := pigment.Stuck(b, 0, all)
		want(t, "errors", of(e, f), of(api.OK, api.OK))
		want(t, "exactly one of Arrange and Stuck", is != stays, true)
		if is {
			arranged++
			want(t, "the colours", slices.Sorted(slices.Values(order)), all)
			for i, x := range order {
				for _, y := range order[:i] {
					wants(t, "MayOver in the order", of(pigment.MayOver(b, 0, x, y)), true, 0)
				}
			}
			continue
		}
		want(t, "a circle of different colours", len(slices.Compact(slices.Sorted(slices.Values(circle)))) == len(circle) && len(circle) > 1, true)
		for i, x := range circle {
			may, _ := pigment.MayOver(b, 0, x, circle[(i+1)%len(circle)])
			want(t, "MayOver in the circle", may, false)
		}
	}
	want(t, "some are arranged, some not", arranged > 50 && arranged < 250, true)
}

// P6.7: what certificates show holds for all recipes, also for those of tints that are not free.
func TestCertificates(t *testing.T) {
	d := &dice{25}
	for range 150 {
		most := 1 + d.roll(5)
		tints := d.tints(2+d.roll(5), most)
		for range 12 {
			r := d.recipe(len(tints))
			// A recipe that gives a shade of whole numbers.
			whole, shade := true, [3]int{}
			for i := range shade {
				x := average(tints, r, func(x api.Tint) int { return x.Shade[i] })
				whole, shade[i] = whole && x.IsInt(), int(x.Num().Int64())
			}
			if !whole {
				continue
			}
			_, is, _ := pigment.Reach(tints, shade)
			want(t, "a shade that a recipe gives is reached", is, true)
			p := api.Plane{N: shadeOf(d.roll(7)-3, d.roll(7)-3, d.roll(7)-3), C: d.roll(40) - 20}
			want(t, "a plane for a shade that a recipe gives", pigment.CheckPlane(tints, shade, p), false)
			best, dual, _ := pigment.Cheapest(tints, shade)
			less := priceOf(tints, r).Cmp(priceOf(tints, best))
			want(t, "a recipe is cheaper than the cheapest one", less < 0, false)
			wants(t, "CheckCheapest of any recipe", of(pigment.CheckCheapest(tints, shade, r, dual)), less == 0, api.OK)
		}
	}
}

// P6.7: no dual of small numbers is accepted for a recipe when another one is cheaper.
func TestDuals(t *testing.T) {
	d := &dice{26}
	accepted := 0
	for range 4000 {
		tints := d.tints(2+d.roll(3), 2)
		shade := d.inside(tints, 2)
		all := mixtures(tints, shade)
		if len(all) == 0 {
			continue
		}
		r := all[d.roll(len(all))]
		dual := api.Dual{Num: [4]int{d.roll(9) - 1, d.roll(5) - 2, d.roll(5) - 2, d.roll(5) - 2}, Den: 1 + d.roll(2)}
		if is, _ := pigment.CheckCheapest(tints, shade, r, dual); is {
			accepted++
			want(t, "the price of what is accepted", priceOf(tints, r).Cmp(priceOf(tints, cheapest(tints, shade))), 0)
		}
	}
	want(t, "some are accepted", accepted > 20, true)
}

// P6.8: one more tint.
func TestMoreTints(t *testing.T) {
	d := &dice{27}
	reached := 0
	for range 300 {
		most := 2 + d.roll(6)
		tints := d.tints(2+d.roll(10), most)
		fewer := tints[:len(tints)-1]
		shade := d.shade(most)
		if d.roll(2) == 0 {
			shade = d.inside(fewer, most)
		}
		_, before, _ := pigment.Reach(fewer, shade)
		_, now, _ := pigment.Reach(tints, shade)
		want(t, "a shade that can be mixed no longer", before && !now, false)
		if before {
			reached++
			want(t, "a greater price with one more tint", leastPrice(t, tints, shade).Cmp(leastPrice(t, fewer, shade)) > 0, false)
		}
	}
	want(t, "many are reached", reached > 100, true)
}

func leastPrice(t *testing.T, tints []api.Tint, shade [3]int) *big.Rat {
	t.Helper()
	r, _, e := pigment.Cheapest(tints, shade)
	if e != api.OK {
		t.Fatalf("Cheapest: error %d", e)
	}
	price, e := pigment.Price(tints, r)
	want(t, "the error of Price", e, api.OK)
	return big.NewRat(int64(price.Num), int64(price.Den))
}
