package pigment_test

import (
	"slices"
	"strings"
	"testing"

	"giornata/api"
	"giornata/pigment"
)

// palette is a book by which f1 to f9 are fresh, d1 to d9 dry, and c is contrary.
func palette() api.Book {
	b := book(fast(1, 0, "fresh"), dry(2, 0, "dry"), fast(3, 0, "c"), dry(4, 0, "c"))
	for i := 1; i <= 9; i++ {
		b.Rules = append(b.Rules, group(10+i, 0, numbered("f", i), "fresh"), group(20+i, 0, numbered("d", i), "dry"))
	}
	return b
}

// F9: strokes and their errors.
func TestStrokes(t *testing.T) {
	b := chapterBook()
	wants(t, "Strokes on 0", of(pigment.Strokes(b, 0, names("ochre", "azurite"))), names("ochre"), names("azurite"), api.OK)
	wants(t, "Strokes on 9", of(pigment.Strokes(b, 9, names("ochre", "azurite"))), names(), names(), api.ErrState)
	wants(t, "Strokes of no colours", of(pigment.Strokes(b, 0, nil)), names(), names(), api.OK)
	wants(t, "Strokes in their order", of(pigment.Strokes(palette(), 0, names("f2", "d3", "f1", "d1", "f3", "d2", "fresh", "dry"))), names("f2", "f1", "f3", "fresh"), names("d3", "d1", "d2", "dry"), api.OK)
	for _, x := range []struct {
		colours string
		e       api.Errno
	}{
		{"f1 f2 f3 f4 f5 f6 f7 f8", api.OK},
		{"f1 f2 f3 f4 f5 f6 f7 f8 f9", api.ErrLimit},
		{"A A A A A A A A A", api.ErrLimit},
		{"A", api.ErrArg},
		{"f1 -", api.ErrArg},
		{"f1 f2 f1", api.ErrTwice},
		{"unknown", api.ErrState},
		{"f1 c", api.ErrState},
		// Each check is made for all colours before the next one is made.
		{"f1 f1 A", api.ErrArg},
		{"A f1 f1", api.ErrArg},
		{"A A", api.ErrArg},
		{"c A", api.ErrArg},
		{"A c", api.ErrArg},
		{"unknown f1 f1", api.ErrTwice},
		{"f1 f1 unknown", api.ErrTwice},
		{"c c", api.ErrTwice},
		{"unknown f1 f1 A", api.ErrArg},
		{"f1 f2 d1 unknown", api.ErrState},
	} {
		_, _, e := pigment.Strokes(palette(), 0, strings.Fields(x.colours))
		want(t, "the error of Strokes of "+x.colours, e, x.e)
	}
	wants(t, "Strokes of an empty string", of(pigment.Strokes(palette(), 0, names("f1", ""))), names(), names(), api.ErrArg)
}

// F9, R1: all lists of up to four strings, of which some are no names and some have no state that can be laid.
func TestStrokesErrorsInOrder(t *testing.T) {
	states := map[string]uint8{"f1": api.PigFresh, "d1": api.PigDry, "c": api.PigContrary, "unknown": api.PigUnknown}
	all := names("f1", "d1", "c", "unknown", "A", "")
	isStuck := func(x string) bool { return states[x] != api.PigFresh && states[x] != api.PigDry }
	isNone := func(x string) bool {
		_, is := states[x]
		return !is
	}
	b := palette()
	for _, colours := range rows(all, 4) {
		e := api.OK
		switch {
		case slices.ContainsFunc(colours, isNone):
			e = api.ErrArg
		case len(slices.Compact(slices.Sorted(slices.Values(colours)))) < len(colours):
			e = api.ErrTwice
		case slices.ContainsFunc(colours, isStuck):
			e = api.ErrState
		}
		fresh, dry, got := pigment.Strokes(b, 0, colours)
		if got != e || e != api.OK && len(fresh)+len(dry) > 0 || e == api.OK && len(fresh)+len(dry) != len(colours) {
			t.Errorf("Strokes of %q: %q, %q, %d; want the error %d", colours, fresh, dry, got, e)
		}
	}
}

// rows returns all rows of up to so many strings, each of which may come again.
func rows(all []string, most int) [][]string {
	out := [][]string{nil}
	for i := 0; len(out[i]) < most; i++ {
		for _, x := range all {
			out = append(out, slices.Concat(out[i], []string{x}))
		}
	}
	return out
}

// F10: the first colour with a fault, the first one before it, and over before beside.
func TestFirstFault(t *testing.T) {
	wants(t, "of ochre, azurite on 5", of(pigment.FirstFault(chapterBook(), 5, names("ochre", "azurite"))), 1, 4, true)
	wants(t, "of azurite, ochre on 5", of(pigment.FirstFault(chapterBook(), 5, names("azurite", "ochre"))), 0, 0, false)
	wants(t, "on 4", of(pigment.FirstFault(chapterBook(), 4, names("ochre", "azurite"))), 0, 0, false)
	wants(t, "beside", of(pigment.FirstFault(chapterBook(), 20, names("white", "ochre", "verdigris"))), 2, 7, true)
	b := book(beside(1, 0, "a", "b"), over(2, 0, "b", "a"), over(3, 0, "c", "b"), beside(4, 0, "c", "a"), over(5, 0, "c", "a"), over(6, 0, "a", "a"))
	for _, x := range []struct {
		colours string
		at, id  int
		is      bool
	}{
		{"a b c", 1, 2, true}, {"b a c", 1, 1, true}, {"x b c", 2, 3, true}, {"a c b", 1, 5, true}, {"c a b", 1, 4, true}, {"c x a", 2, 4, true},
		{"a", 0, 0, false}, {"x y z", 0, 0, false}, {"", 0, 0, false}, {"a a", 1, 6, true}, {"x a y a", 3, 6, true}, {"b x c a", 2, 3, true}, {"x x x A ? . b c", 7, 3, true},
		{"1 2 3 4 5 6 a b", 7, 2, true}, {"1 2 3 4 5 6 7 a b", 0, 0, false}, {"1 2 3 4 5 6 7 8 a b c", 0, 0, false},
	} {
		wants(t, "FirstFault of "+x.colours, of(pigment.FirstFault(b, 0, strings.Fields(x.colours))), x.at, x.id, x.is)
	}
	d := &dice{6}
	for range 300 {
		b, known := d.any(), d.roll(10)
		m := modelOf(b, known)
		var colours []string
		for range d.roll(11) {
			colours = append(colours, d.one(few))
		}
		at, id, is := fault(m, colours)
		wants(t, "FirstFault", of(pigment.FirstFault(b, known, colours)), at, id, is)
	}
}

// fault finds by the words of the chapter what FirstFault says.
func fault(m model, colours []string) (int, int, bool) {
	for i := range min(8, len(colours)) {
		for j := range i {
			over, id := m.mayOver(colours[i], colours[j])
			beside, other := m.mayBeside(colours[i], colours[j])
			switch {
			case !over:
				return i, id, true
			case !beside:
				return i, other, true
			}
		}
	}
	return 0, 0, false
}

// F11: orders, circles and their errors.
func TestArrangeAndStuck(t *testing.T) {
	colours := names("ochre", "azurite")
	wants(t, "Arrange on 5", of(pigment.Arrange(chapterBook(), 5, colours)), names("azurite", "ochre"), true, api.OK)
	wants(t, "Stuck on 5", of(pigment.Stuck(chapterBook(), 5, colours)), names(), false, api.OK)
	wants(t, "Arrange on 4", of(pigment.Arrange(chapterBook(), 4, colours)), colours, true, api.OK)
	wants(t, "Arrange of no colours", of(pigment.Arrange(chapterBook(), 5, nil)), names(), true, api.OK)
	wants(t, "Stuck of no colours", of(pigment.Stuck(chapterBook(), 5, nil)), names(), false, api.OK)
	b := book(over(1, 0, "a", "b"), over(2, 0, "b", "c"), over(3, 0, "c", "a"), over(4, 0, "x", "x"), over(5, 1, "d", "c"), over(6, 1, "c", "d"), over(7, 2, "e", "a"), over(8, 2, "b", "a"))
	for _, x := range []struct {
		known          int
		colours, order string
		circle         string
	}{
		{0, "a b", "a b", ""}, {0, "b a", "a b", ""}, {0, "c a x b", "", "c a b"}, {0, "b c a", "", "b c a"}, {0, "d c b", "d b c", ""},
		{0, "x", "x", ""}, {0, "y x ! x?", "y x ! x?", ""}, {1, "a b c d", "", "c d"}, {1, "d a b c", "", "d c"}, {1, "a b d", "a b d", ""}, {2, "a b c d", "", "a b"}, {2, "d c b a", "", "d c"}, {2, "z c a e b", "", "a b"},
	} {
		l := strings.Fields(x.colours)
		wants(t, "Arrange of "+x.colours, of(pigment.Arrange(b, x.known, l)), strings.Fields(x.order), x.order != "", api.OK)
		wants(t, "Stuck of "+x.colours, of(pigment.Stuck(b, x.known, l)), strings.Fields(x.circle), x.circle != "", api.OK)
	}
	for _, x := range []struct {
		colours string
		e       api.Errno
	}{{"a a", api.ErrTwice}, {"a b c a", api.ErrTwice}, {"1 2 3 4 5 6 7 8", api.OK}, {"1 2 3 4 5 6 7 8 9", api.ErrLimit}, {"a a a a a a a a a", api.ErrLimit}} {
		_, _, e := pigment.Arrange(b, 0, strings.Fields(x.colours))
		want(t, "the error of Arrange of "+x.colours, e, x.e)
		_, _, e = pigment.Stuck(b, 0, strings.Fields(x.colours))
		want(t, "the error of Stuck of "+x.colours, e, x.e)
	}
}

// circleBook returns a book by which each one of n colours has to come before the next one, and the last one before the first one.
func circleBook(n int) (api.Book, []string) {
	var b api.Book
	var colours []string
	for i := range n {
		colours = append(colours, numbered("x", i))
		b.Rules = append(b.Rules, over(i+1, 0, numbered("x", i), numbered("x", (i+1)%n)))
	}
	return b, colours
}

// F11: circles and rows of eight colours.
func TestLongCircles(t *testing.T) {
	for n := 2; n <= 8; n++ {
		b, colours := circleBook(n)
		wants(t, "Arrange in a circle", of(pigment.Arrange(b, 0, colours)), names(), false, api.OK)
		wants(t, "Stuck in a circle", of(pigment.Stuck(b, 0, colours)), colours, true, api.OK)
		backward := slices.Clone(colours)
		slices.Reverse(backward)
		wants(t, "Stuck in a circle from behind", of(pigment.Stuck(b, 0, backward)), append(backward[:1:1], colours[:n-1]...), true, api.OK)
		row := book(b.Rules[:n-1]...)
		wants(t, "Arrange of a row from behind", of(pigment.Arrange(row, 0, backward)), colours, true, api.OK)
		wants(t, "Stuck in a row", of(pigment.Stuck(row, 0, backward)), names(), false, api.OK)
	}
}

// arranged returns the first list of all colours in which none lies over one that it may not lie over.
func arranged(m model, colours []string) ([]string, bool) {
	for _, l := range lists(len(colours)) {
		wrong := func(i int) bool {
			return slices.ContainsFunc(l[:i], func(j int) bool { return m.forbids(colours[l[i]], colours[j]) })
		}
		if len(l) == len(colours) && !slices.ContainsFunc(lists(len(l)), func(x []int) bool { return len(x) == 1 && wrong(x[0]) }) {
			return pick(colours, l), true
		}
	}
	return nil, false
}

// stuck returns the first circle of colours.
func stuck(m model, colours []string) ([]string, bool) {
	for _, l := range lists(len(colours)) {
		if len(l) < 2 || slices.Min(l) != l[0] {
			continue
		}
		is := true
		for i := range l {
			is = is && m.forbids(colours[l[i]], colours[l[(i+1)%len(l)]])
		}
		if is {
			return pick(colours, l), true
		}
	}
	return nil, false
}

func pick(colours []string, l []int) []string {
	var out []string
	for _, i := range l {
		out = append(out, colours[i])
	}
	return out
}

// F11, P6.5: the first order or the first circle of all.
func TestAllOrders(t *testing.T) {
	d := &dice{7}
	for i := range 200 {
		b := d.any()
		for range 2 * (i % 6) {
			b.Rules = append(b.Rules, over(100+len(b.Rules), 0, d.one(few), d.one(few)))
		}
		known := d.roll(10)
		m := modelOf(b, known)
		colours := d.shuffled(1 + d.roll(5))
		order, is := arranged(m, colours)
		circle, stays := stuck(m, colours)
		want(t, "exactly one of both", is != stays, true)
		wants(t, "Arrange", of(pigment.Arrange(b, known, colours)), order, is, api.OK)
		wants(t, "Stuck", of(pigment.Stuck(b, known, colours)), circle, stays, api.OK)
	}
}
