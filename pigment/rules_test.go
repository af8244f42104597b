package pigment_test

import (
	"slices"
	"strings"
	"testing"

	"giornata/api"
	"giornata/pigment"
)

// given are arguments of all functions.
type given struct {
	b         api.Book
	r         api.Rule
	line, src string
	known, to int
	x, y      string
	colours   []string
	t         []api.Tint
	shade     [3]int
	recipe    api.Recipe
	plane     api.Plane
	dual      api.Dual
}

// call is a function with some of the arguments, which spoils the memory of what it gets, and returns it spelt out.
type call struct {
	name string
	of   func(x given) results
}

// spoil returns a copy of a list, of which it spoils the memory.
func spoil[T any](l []T, with T) []T {
	out := slices.Clone(l)
	l = l[:cap(l)]
	for i := range l {
		l[i] = with
	}
	return out
}

func spoilNames(l []string) []string { return spoil(l, "spoilt") }

func spoilBook(b api.Book) api.Book { return api.Book{Rules: spoil(b.Rules, api.Rule{Id: 99})} }

func spoilRecipe(r api.Recipe) api.Recipe {
	return api.Recipe{Parts: spoil(r.Parts, api.Part{Tint: 99})}
}

// calls are all functions.
var calls = []call{
	{"Check", func(x given) results { return of(pigment.Check(x.b)) }},
	{"Append", func(x given) results { b, e := pigment.Append(x.b, x.r); return of(spoilBook(b), e) }},
	{"Write", func(x given) results { return of(pigment.Write(x.r)) }},
	{"Read", func(x given) results { return of(pigment.Read(x.line)) }},
	{"Parse", func(x given) results { b, fault := pigment.Parse(x.src); return of(spoilBook(b), fault) }},
	{"Print", func(x given) results { return of(pigment.Print(x.b)) }},
	{"Counting", func(x given) results { return of(spoil(pigment.Counting(x.b, x.known), api.Rule{Id: 99})) }},
	{"Groups", func(x given) results { return of(spoilNames(pigment.Groups(x.b, x.known, x.x))) }},
	{"State", func(x given) results { return of(pigment.State(x.b, x.known, x.x)) }},
	{"Why", func(x given) results { return of(spoil(pigment.Why(x.b, x.known, x.x), 99)) }},
	{"Chain", func(x given) results { l, is := pigment.Chain(x.b, x.known, x.x, x.y); return of(spoil(l, 99), is) }},
	{"Contrary", func(x given) results { return of(spoilNames(pigment.Contrary(x.b, x.known))) }},
	{"Effect", func(x given) results { return of(spoilNames(pigment.Effect(x.b, x.known, x.to))) }},
	{"MayBeside", func(x given) results { return of(pigment.MayBeside(x.b, x.known, x.x, x.y)) }},
	{"MayOver", func(x given) results { return of(pigment.MayOver(x.b, x.known, x.x, x.y)) }},
	{"Strokes", func(x given) results {
		fresh, dry, e := pigment.Strokes(x.b, x.known, x.colours)
		return of(spoilNames(fresh), spoilNames(dry), e)
	}},
	{"FirstFault", func(x given) results { return of(pigment.FirstFault(x.b, x.known, x.colours)) }},
	{"Arrange", func(x given) results {
		l, is, e := pigment.Arrange(x.b, x.known, x.colours)
		return of(spoilNames(l), is, e)
	}},
	{"Stuck", func(x given) results {
		l, is, e := pigment.Stuck(x.b, x.known, x.colours)
		return of(spoilNames(l), is, e)
	}},
	{"Mix", func(x given) results { return of(pigment.Mix(x.t, x.recipe)) }},
	{"Price", func(x given) results { return of(pigment.Price(x.t, x.recipe)) }},
	{"Reach", func(x given) results { r, is, e := pigment.Reach(x.t, x.shade); return of(spoilRecipe(r), is, e) }},
	{"Plane", func(x given) results { return of(pigment.Plane(x.t, x.shade)) }},
	{"CheckPlane", func(x given) results { return of(pigment.CheckPlane(x.t, x.shade, x.plane)) }},
	{"Cheapest", func(x given) results { r, d, e := pigment.Cheapest(x.t, x.shade); return of(spoilRecipe(r), d, e) }},
	{"CheckCheapest", func(x given) results { return of(pigment.CheckCheapest(x.t, x.shade, x.recipe, x.dual)) }},
}

// example returns arguments for which no function has an error. Slices with room behind them would show a function that appends to its arguments.
func example() given {
	x := given{b: chapterBook(), r: dry(8, 20, "lead"), line: "8 20 dry lead", src: chapterSource, known: 9, to: 20, x: "ochre", y: "earth", t: chapterTints(), shade: shadeOf(2, 2, 0)}
	x.colours, x.recipe, x.dual = names("earth", "azurite"), recipe(0, 2, 2, 1, 3, 2), api.Dual{Num: [4]int{20, 1, 1, 0}, Den: 5}
	x.plane = planeOf(0, 0, 0, 1)
	x.b.Rules, x.colours = slices.Grow(x.b.Rules, 9), slices.Grow(x.colours, 9)
	x.t, x.recipe.Parts = slices.Grow(x.t, 9), slices.Grow(x.recipe.Parts, 9)
	return x
}

// untouched reports whether nothing is in the room behind a list.
func untouched[T comparable](l []T) bool {
	var none T
	return !slices.ContainsFunc(l[len(l):cap(l)], func(x T) bool { return x != none })
}

// R3 and R4: functions leave their arguments alone, results are new memory, and calls leave no trace.
func TestArgumentsStay(t *testing.T) {
	other := given{b: anyBook(), r: void(1, 0, 2), line: "1 0 void 2", src: "x", known: 3, x: "a", y: "b", colours: names("b", "a", "c"), t: twelve(), shade: shadeOf(500, 500, 500), recipe: recipe(3, 1)}
	for _, c := range calls {
		x := example()
		first := c.of(x)
		for _, c := range calls {
			c.of(other)
		}
		want(t, c.name+" once more", c.of(x), first)
		want(t, "the arguments of "+c.name, same(x, example()), true)
		want(t, "the room behind the arguments of "+c.name, untouched(x.b.Rules) && untouched(x.colours) && untouched(x.t) && untouched(x.recipe.Parts), true)
		for _, v := range first {
			want(t, "the error of "+c.name, v == api.ErrArg || v == api.ErrState || v == api.ErrForm, false)
		}
	}
}

// R3: the two lists of Strokes share no memory, and neither do books that grow from one.
func TestListsOfResults(t *testing.T) {
	b := book(fast(1, 0, "a"), dry(2, 0, "b"))
	fresh, dry, _ := pigment.Strokes(b, 0, names("a", "b"))
	_ = append(fresh, "x")
	want(t, "the dry colours beside fresh ones that grew", dry, names("b"))
	_ = append(dry, "x")
	want(t, "the fresh colours beside dry ones that grew", fresh, names("a"))
	one, _ := pigment.Append(b, fast(3, 0, "c"))
	other, _ := pigment.Append(b, fast(4, 0, "d"))
	_, _ = pigment.Append(one, fast(5, 0, "e"))
	wants(t, "books that grew", of(one, other), book(b.Rules[0], b.Rules[1], fast(3, 0, "c")), book(b.Rules[0], b.Rules[1], fast(4, 0, "d")))
}

// R3: a nil slice and an empty one are equivalent, also within structs.
func TestNilAndEmpty(t *testing.T) {
	empty := given{b: api.Book{Rules: []api.Rule{}}, colours: []string{}, t: []api.Tint{}, recipe: api.Recipe{Parts: []api.Part{}}}
	for _, c := range calls {
		want(t, c.name+" of empty slices", c.of(empty), c.of(given{}))
		x, y := example(), example()
		x.b.Rules, x.colours, x.recipe.Parts = nil, nil, nil
		y.b.Rules, y.colours, y.recipe.Parts = []api.Rule{}, []string{}, []api.Part{}
		want(t, c.name+" of empty slices and tints", c.of(y), c.of(x))
	}
}

// R1: no function panics, whatever the fields are.
func TestAnyNumbers(t *testing.T) {
	numbers := []int{tiny, tiny + 1, -1000000000001, -1001, -1, 0, 0, 1, 1, 2, 3, 4, 5, 11, 12, 13, 999, 1000, 1001, 10000, 100000, 1000000, 1000000000000, 1000000000000000, 10000000000000000, huge - 1, huge}
	words := append([]string{"a", "b", "ochre", "earth", longest, longest + "a", strings.Repeat("x", 3000), "1 0 fast a", "1 0 over a b", "1 0 void 2", "1 0  a", "1 0 fast", "  ", "   ", "\n\n", "#"}, strange...)
	d := &dice{28}
	n := func() int { return numbers[d.roll(len(numbers))] }
	for range 4000 {
		x := example()
		for i := range x.b.Rules {
			if d.roll(4) == 0 {
				x.b.Rules[i] = api.Rule{Id: n(), Known: n(), Kind: uint8(d.roll(8)), X: d.one(words), Y: d.one(words), Of: n()}
			}
		}
		x.r = api.Rule{Id: n(), Known: n(), Kind: uint8(n()), X: d.one(words), Y: d.one(words), Of: n()}
		x.line, x.x, x.y, x.known, x.to = d.one(words), d.one(words), d.one(words), n(), n()
		x.src = d.one(words) + "\n" + d.one(words)
		x.colours = []string{d.one(words), d.one(words), d.one(words)}[:d.roll(4)]
		if d.roll(3) == 0 {
			x.t[d.roll(4)] = tint(d.one(words), n(), n(), n(), n())
		}
		if d.roll(2) == 0 {
			x.shade = shadeOf(n(), n(), n())
		}
		x.recipe = recipe(n(), n(), n(), n(), n(), n())
		x.plane, x.dual = planeOf(n(), n(), n(), n()), api.Dual{Num: [4]int{n(), n(), n(), n()}, Den: n()}
		for _, c := range calls {
			c.of(x)
		}
	}
}

// R1: long books that are not valid.
func TestLongBooks(t *testing.T) {
	var b api.Book
	for i := range 20000 {
		b.Rules = append(b.Rules, group(1+i, 0, numbered("x", i), numbered("x", i+1)))
	}
	b.Rules = append(b.Rules, group(30000, 0, "x20000", "x0"), fast(30001, 0, "x12345"))
	want(t, "the groups in a long circle", len(pigment.Groups(b, 0, "x7")), 20001)
	want(t, "State in a long circle", pigment.State(b, 0, "x20000"), api.PigFresh)
	chain, is := pigment.Chain(b, 0, "x1", "x0")
	wants(t, "Chain in a long circle", of(len(chain), chain[0], chain[19999], is), 20000, 2, 30000, true)
	wants(t, "Check of a long book", of(pigment.Check(b)), 200, api.ErrLimit)
}
