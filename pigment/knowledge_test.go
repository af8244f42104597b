package pigment_test

import (
	"slices"
	"testing"

	"giornata/api"
	"giornata/pigment"
)

// anyBook returns a book that is valid in nothing but most of its rules.
func anyBook() api.Book {
	b := book(
		void(1, 5, 4),                                    // before the rule that it withdraws
		fast(2, 3, "a"), fast(2, 1, "b"), dry(2, 0, "c"), // one Id, and days that decrease
		dry(4, 2, "a"), over(4, 2, "a", "b"), void(4, 2, 2), // all with one Id; the last one withdraws those with 2
		void(9, 0, 1),                                // of a void
		group(5, 0, "a", "b"), group(6, 0, "b", "a"), // a circle
		fast(7, 0, "A"), group(7, 0, "x", "x"), fast(0, 0, "x"), // not well-formed
		api.Rule{Id: 8, Kind: api.RuleVoid, X: "x", Of: 5}, // not well-formed
	)
	return b
}

// F4: what counts in the chapter's book and in one that is not valid.
func TestCounting(t *testing.T) {
	b := chapterBook().Rules
	for _, x := range []struct {
		known int
		rules []api.Rule
	}{{-1, nil}, {tiny, nil}, {0, b[:3]}, {4, b[:3]}, {5, b[:4]}, {8, b[:4]}, {9, b[:5]}, {19, b[:5]}, {20, append(slices.Clone(b[:4]), b[6])}, {100000, append(slices.Clone(b[:4]), b[6])}, {huge, append(slices.Clone(b[:4]), b[6])}} {
		want(t, "Counting", pigment.Counting(chapterBook(), x.known), x.rules)
	}
	c := anyBook().Rules
	want(t, "Counting on 0", pigment.Counting(anyBook(), 0), []api.Rule{c[3], c[8], c[9]})
	want(t, "Counting on 1", pigment.Counting(anyBook(), 1), []api.Rule{c[2], c[3], c[8], c[9]})
	want(t, "Counting on 2", pigment.Counting(anyBook(), 2), []api.Rule{c[4], c[5], c[8], c[9]})
	want(t, "Counting on 5", pigment.Counting(anyBook(), 5), []api.Rule{c[8], c[9]})
	want(t, "Counting of 300 rules", len(pigment.Counting(many(300), 1000)), 300)
	want(t, "State by the last one of 300 rules", pigment.State(many(300), 1000, "x299"), api.PigFresh)
}

// F4: the groups of names and of other strings.
func TestGroups(t *testing.T) {
	want(t, "Groups of ochre", pigment.Groups(chapterBook(), 0, "ochre"), names("earth", "ochre"))
	want(t, "Groups of earth", pigment.Groups(chapterBook(), 0, "earth"), names("earth"))
	want(t, "Groups before the first day", pigment.Groups(chapterBook(), -1, "ochre"), names("ochre"))
	for _, x := range strange {
		want(t, "Groups of a strange name", pigment.Groups(chapterBook(), 20, x), names(x))
	}
	b := book(group(1, 0, "m", "z"), group(2, 1, "z", "a"), group(3, 1, "m", "m-1"), group(4, 1, "m-1", "a"), group(5, 1, "a", "m0"), group(6, 1, "x", "m"), void(7, 2, 2))
	want(t, "Groups on 0", pigment.Groups(b, 0, "m"), names("m", "z"))
	want(t, "Groups on 1", pigment.Groups(b, 1, "m"), names("a", "m", "m-1", "m0", "z"))
	want(t, "Groups of z on 2", pigment.Groups(b, 2, "z"), names("z"))
	want(t, "Groups of m on 2", pigment.Groups(b, 2, "m"), names("a", "m", "m-1", "m0", "z"))
	want(t, "Groups in a circle", pigment.Groups(anyBook(), 0, "b"), names("a", "b"))
}

// F5: the states of the chapter's names, and of groups of groups.
func TestState(t *testing.T) {
	for _, x := range []struct {
		known int
		name  string
		state uint8
		why   []int
	}{
		{-1, "earth", api.PigUnknown, nil}, {0, "earth", api.PigFresh, ids(2)}, {0, "ochre", api.PigFresh, ids(2)}, {9, "ochre", api.PigContrary, ids(2, 5)}, {9, "earth", api.PigFresh, ids(2)}, {20, "ochre", api.PigFresh, ids(2)},
		{0, "azurite", api.PigDry, ids(3)}, {20, "azurite", api.PigDry, ids(3)}, {0, "white", api.PigUnknown, nil}, {20, "verdigris", api.PigUnknown, nil}, {20, "", api.PigUnknown, nil},
	} {
		want(t, "State of "+x.name, pigment.State(chapterBook(), x.known, x.name), x.state)
		want(t, "Why of "+x.name, pigment.Why(chapterBook(), x.known, x.name), x.why)
	}
	short, fault := pigment.Parse("2 0 fast earth\n1 0 group ochre earth\n")
	want(t, "the fault of two rules", fault, api.Fault{})
	want(t, "State of ochre by two rules", pigment.State(short, 0, "ochre"), api.PigFresh)
	b := book(dry(9, 0, "c"), group(8, 0, "a", "b"), group(7, 0, "b", "c"), fast(5, 0, "c"), dry(3, 0, "b"), dry(2, 0, "a"), over(1, 0, "a", "c"), group(6, 0, "a", "c"))
	want(t, "Why of a group of a group", pigment.Why(b, 0, "a"), ids(2, 3, 5, 9))
	want(t, "Why of the group", pigment.Why(b, 0, "b"), ids(3, 5, 9))
	want(t, "Why of Ids that occur twice", pigment.Why(book(fast(4, 0, "a"), dry(4, 0, "a"), fast(4, 0, "a")), 0, "a"), ids(4))
	want(t, "State of Ids that occur twice", pigment.State(book(fast(4, 0, "a"), dry(4, 0, "a")), 0, "a"), api.PigContrary)
}

// F6: chains by the fewest rules, then by the places of the rules, whatever their Ids are.
func TestChain(t *testing.T) {
	wants(t, "Chain of ochre, earth", of(pigment.Chain(chapterBook(), 0, "ochre", "earth")), ids(1), true)
	wants(t, "Chain of earth, ochre", of(pigment.Chain(chapterBook(), 0, "earth", "ochre")), ids(), false)
	wants(t, "Chain before the rule", of(pigment.Chain(chapterBook(), -1, "ochre", "earth")), ids(), false)
	for _, x := range strange {
		wants(t, "Chain from a name to itself", of(pigment.Chain(chapterBook(), 0, x, x)), ids(), true)
		wants(t, "Chain to another name", of(pigment.Chain(chapterBook(), 0, x, "earth")), ids(), false)
		wants(t, "Chain from another name", of(pigment.Chain(chapterBook(), 0, "ochre", x)), ids(), false)
	}
	b := book(group(9, 0, "c", "z"), group(8, 0, "a", "b"), group(7, 0, "a", "c"), group(6, 0, "b", "z"), group(5, 0, "a", "b"), group(4, 0, "z", "y"), group(3, 5, "a", "z"), void(2, 6, 8), void(1, 7, 3))
	wants(t, "the first one of two ways", of(pigment.Chain(b, 0, "a", "z")), ids(8, 6), true)
	wants(t, "the first way further on", of(pigment.Chain(b, 0, "a", "y")), ids(8, 6, 4), true)
	wants(t, "the shorter way", of(pigment.Chain(b, 5, "a", "y")), ids(3, 4), true)
	wants(t, "the shorter way still", of(pigment.Chain(b, 6, "a", "z")), ids(3), true)
	wants(t, "the way by the first place that is left", of(pigment.Chain(b, 7, "a", "z")), ids(7, 9), true)
	wants(t, "the rule that is left", of(pigment.Chain(b, 7, "a", "b")), ids(5), true)
	wants(t, "a circle", of(pigment.Chain(anyBook(), 0, "a", "a")), ids(), true)
	wants(t, "in a circle", of(pigment.Chain(anyBook(), 0, "b", "a")), ids(6), true)
}

// F7: names that rules contradict each other about, and names whose state changes.
func TestContraryAndEffect(t *testing.T) {
	b := chapterBook()
	for known, wanted := range map[int][]string{-1: nil, 8: nil, 9: names("ochre"), 19: names("ochre"), 20: nil} {
		want(t, "Contrary", pigment.Contrary(b, known), wanted)
	}
	for days, wanted := range map[[2]int][]string{{0, 9}: names("ochre"), {9, 0}: names("ochre"), {0, 20}: nil, {9, 20}: names("ochre"), {-1, 0}: names("azurite", "earth", "ochre"), {0, 0}: nil, {tiny, huge}: names("azurite", "earth", "ochre")} {
		want(t, "Effect", pigment.Effect(b, days[0], days[1]), wanted)
	}
	c := book(over(1, 0, "z", "y"), fast(2, 0, "top"), dry(3, 0, "top"), group(4, 0, "z", "top"), group(5, 0, "y", "top"), beside(6, 9, "late", "y"), group(7, 9, "late", "top"))
	want(t, "Contrary by a group", pigment.Contrary(c, 0), names("top", "y", "z"))
	want(t, "Contrary of a name that occurs later", pigment.Contrary(c, 9), names("late", "top", "y", "z"))
	want(t, "Effect of a group that comes later", pigment.Effect(c, 0, 9), names("late"))
	want(t, "Effect of a name in a rule that is withdrawn", pigment.Effect(book(fast(1, 0, "a"), void(2, 1, 1)), 0, 1), names("a"))
	want(t, "Effect of a name in a rule that is not well-formed", pigment.Effect(book(fast(1, 1, "b"), api.Rule{Id: 2, Kind: api.RuleGroup, X: "a", Y: "b", Of: 1}), 0, 1), names("b"))
}

// F8: the first rule that forbids it, for groups and in both directions beside each other.
func TestMay(t *testing.T) {
	b := chapterBook()
	for _, x := range []struct {
		known int
		x, y  string
		may   bool
		id    int
	}{{4, "azurite", "ochre", true, 0}, {5, "azurite", "ochre", false, 4}, {5, "azurite", "earth", false, 4}, {5, "ochre", "azurite", true, 0}, {5, "earth", "azurite", true, 0}, {20, "white", "verdigris", true, 0}, {5, "azurite", "azurite", true, 0}} {
		wants(t, "MayOver of "+x.x+", "+x.y, of(pigment.MayOver(b, x.known, x.x, x.y)), x.may, x.id)
	}
	for _, x := range []struct {
		known int
		x, y  string
		may   bool
		id    int
	}{{20, "white", "verdigris", false, 7}, {20, "verdigris", "white", false, 7}, {19, "verdigris", "white", true, 0}, {20, "azurite", "ochre", true, 0}, {20, "white", "white", true, 0}} {
		wants(t, "MayBeside of "+x.x+", "+x.y, of(pigment.MayBeside(b, x.known, x.x, x.y)), x.may, x.id)
	}
	c := book(group(1, 0, "a", "g"), group(2, 0, "b", "h"), over(9, 0, "g", "g"), over(8, 0, "a", "a"), over(7, 0, "g", "h"), over(6, 0, "a", "b"), beside(5, 0, "h", "g"), beside(4, 0, "a", "b"), beside(3, 0, "h", "h"))
	wants(t, "MayOver of a name and itself", of(pigment.MayOver(c, 0, "a", "a")), false, 9)
	wants(t, "MayOver by groups first", of(pigment.MayOver(c, 0, "a", "b")), false, 7)
	wants(t, "MayOver the other way", of(pigment.MayOver(c, 0, "b", "a")), true, 0)
	wants(t, "MayOver of a group over a name in it", of(pigment.MayOver(c, 0, "g", "a")), false, 9)
	wants(t, "MayOver of a rule about a name in the group", of(pigment.MayOver(c, 0, "a", "h")), false, 7)
	wants(t, "MayBeside by groups first", of(pigment.MayBeside(c, 0, "a", "b")), false, 5)
	wants(t, "MayBeside the other way", of(pigment.MayBeside(c, 0, "b", "a")), false, 5)
	wants(t, "MayBeside of a name and itself", of(pigment.MayBeside(c, 0, "b", "b")), false, 3)
	wants(t, "MayBeside of a name that no rule forbids", of(pigment.MayBeside(c, 0, "a", "a")), true, 0)
	for _, x := range strange {
		wants(t, "MayOver of a strange name", of(pigment.MayOver(c, 0, x, "a")), true, 0)
		wants(t, "MayBeside of a strange name", of(pigment.MayBeside(c, 0, "a", x)), true, 0)
	}
}

// F4 to F8: any books are what the model says.
func TestAnyBook(t *testing.T) {
	d := &dice{5}
	for i := range 300 {
		b := d.any()
		if i%4 == 0 {
			b = d.valid()
		}
		known := d.roll(12) - 1
		m := modelOf(b, known)
		want(t, "Counting", pigment.Counting(b, known), m.rules)
		all := append(allNames(b), strange...)
		for _, x := range all {
			want(t, "Groups", pigment.Groups(b, known, x), m.groups(x))
			want(t, "State", pigment.State(b, known, x), m.state(x))
			want(t, "Why", pigment.Why(b, known, x), m.why(x, api.RuleFast, api.RuleDry))
			y := d.one(all)
			places, is := m.chain(x, y)
			var chain []int
			for _, place := range places {
				chain = append(chain, m.rules[place].Id)
			}
			wants(t, "Chain", of(pigment.Chain(b, known, x, y)), chain, is)
			may, id := m.mayOver(x, y)
			wants(t, "MayOver", of(pigment.MayOver(b, known, x, y)), may, id)
			may, id = m.mayBeside(x, y)
			wants(t, "MayBeside", of(pigment.MayBeside(b, known, x, y)), may, id)
		}
		later := d.roll(12) - 1
		n := modelOf(b, later)
		want(t, "Contrary", pigment.Contrary(b, known), slices.DeleteFunc(allNames(book(m.rules...)), func(x string) bool { return m.state(x) != api.PigContrary }))
		want(t, "Effect", pigment.Effect(b, known, later), slices.DeleteFunc(allNames(b), func(x string) bool { return m.state(x) == n.state(x) }))
	}
}
