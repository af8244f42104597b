package reading_test

import (
	"slices"
	"strings"
	"testing"

	"giornata/api"
	"giornata/reading"
)

// given are arguments of all functions.
type given struct {
	n                  int
	l                  []api.Observation
	known, until, a, b int
	kind               uint8
	x                  api.Observation
	ids, world, days   []int
	line               string
	o                  api.Order
}

// call is a function with some of the arguments, which spoils the memory of what it gets, and returns it spelt out. The error, if there is one, is the last result.
// Its errors are those that come behind that of Check, in their order, if it asks Check first.
type call struct {
	name    string
	checked bool
	of      func(x given) results
	errors  func(x given) []api.Errno
}

// spoil returns a copy of a list, of which it spoils the memory.
func spoil[T any](l []T, with T) []T {
	out := slices.Clone(l)
	l = l[:cap(l)]
	for i := range l {
		l[i] = with
	}
	return out
}

func spoilLists(l [][]int) [][]int {
	var out [][]int
	for _, x := range l {
		out = append(out, spoil(x, 99))
	}
	spoil(l, p(99))
	return out
}

func observations(l []api.Observation, e ...api.Errno) results {
	return result(spoil(l, api.Observation{Id: 99}), e...)
}

func numbers(l []int, e api.Errno) results { return of(spoil(l, 99), e) }

func pairsOf(l []api.Pair, e api.Errno) results { return of(spoil(l, api.Pair{A: 99}), e) }

func result(value any, e ...api.Errno) results {
	out := of(value)
	for _, x := range e {
		out = append(out, x)
	}
	return out
}

// calls are all functions.
var calls = []call{
	{"Check", true, func(x given) results { return of(reading.Check(x.n, x.l)) }, errors()},
	{"Append", true, func(x given) results { l, e := reading.Append(x.n, x.l, x.x); return observations(l, e) }, errors(refused)},
	{"Counting", false, func(x given) results { return observations(reading.Counting(x.l, x.known)) }, nil},
	{"Write", false, func(x given) results { return of(reading.Write(x.x)) }, nil},
	{"Parse", false, func(x given) results { return of(reading.Parse(x.line)) }, nil},
	{"Consistent", true, func(x given) results { return of(reading.Consistent(x.n, x.l, x.known)) }, errors()},
	{"Conflict", true, func(x given) results {
		l, is, e := reading.Conflict(x.n, x.l, x.known)
		return of(spoil(l, 99), is, e)
	}, errors()},
	{"CheckConflict", true, func(x given) results { return of(reading.CheckConflict(x.n, x.l, x.known, x.ids)) }, errors()},
	{"Mend", true, func(x given) results { return numbers(reading.Mend(x.n, x.l, x.known)) }, errors(manyCount)},
	{"Read", true, func(x given) results { return of(reading.Read(x.n, x.l, x.known, x.a, x.b)) }, errors(noThings)},
	{"Why", true, func(x given) results { return numbers(reading.Why(x.n, x.l, x.known, x.a, x.b)) }, errors(noThings, contrary)},
	{"CheckWhy", true, func(x given) results {
		return of(reading.CheckWhy(x.n, x.l, x.known, x.a, x.b, x.kind, x.ids))
	}, errors(noThings)},
	{"Classes", true, func(x given) results { l, e := reading.Classes(x.n, x.l, x.known); return of(spoilLists(l), e) }, errors()},
	{"Certain", true, func(x given) results { return pairsOf(reading.Certain(x.n, x.l, x.known)) }, errors(contrary)},
	{"Open", true, func(x given) results { return pairsOf(reading.Open(x.n, x.l, x.known)) }, errors(contrary)},
	{"CheckWorld", true, func(x given) results { return of(reading.CheckWorld(x.n, x.l, x.known, x.world)) }, errors()},
	{"Agrees", true, func(x given) results { return numbers(reading.Agrees(x.n, x.l, x.known, x.world)) }, errors(noWorld)},
	{"World", true, func(x given) results { return numbers(reading.World(x.n, x.l, x.known)) }, errors(contrary)},
	{"Worlds", true, func(x given) results { return of(reading.Worlds(x.n, x.l, x.known)) }, errors(manyThings)},
	{"Witness", true, func(x given) results {
		l, is, e := reading.Witness(x.n, x.l, x.known, x.a, x.b, x.kind)
		return of(spoil(l, 99), is, e)
	}, errors(noThings, noKind)},
	{"Useful", true, func(x given) results { return of(reading.Useful(x.n, x.l, x.known, x.x)) }, errors(nothingNew)},
	{"Settles", true, func(x given) results { return pairsOf(reading.Settles(x.n, x.l, x.known, x.x)) }, errors(nothingNew, contrary, contraryToNew)},
	{"Shown", false, func(x given) results { l, e := reading.Shown(x.o, x.days); return observations(l, e) }, nil},
	{"Ranks", false, func(x given) results { return numbers(reading.Ranks(x.n, x.days)) }, nil},
	{"Later", true, func(x given) results { return pairsOf(reading.Later(x.n, x.l, x.known, x.until)) }, errors(backwards)},
}

// errors returns what finds the errors of some causes.
func errors(causes ...func(x given) api.Errno) func(x given) []api.Errno {
	return func(x given) []api.Errno {
		var out []api.Errno
		for _, cause := range causes {
			out = append(out, cause(x))
		}
		return out
	}
}

func errorIf(is bool, e api.Errno) api.Errno {
	if is {
		return e
	}
	return api.OK
}

func refused(x given) api.Errno {
	_, e := checked(x.n, slices.Concat(x.l, []api.Observation{x.x}))
	return e
}

func manyCount(x given) api.Errno { return errorIf(len(counted(x.l, x.known)) > 12, api.ErrLimit) }

func noThings(x given) api.Errno {
	return errorIf(x.a < 1 || x.a > x.n || x.b < 1 || x.b > x.n || x.a == x.b, api.ErrArg)
}

// contrary looks at the first four things alone, as the lists of the tests of errors do.
func contrary(x given) api.Errno {
	return errorIf(modelOf(min(x.n, 4), x.l, x.known).isContrary(), api.ErrContrary)
}

func contraryToNew(x given) api.Errno {
	if nothingNew(x) != api.OK {
		return api.OK
	}
	return errorIf(modelOf(min(x.n, 4), x.l, x.known).with(x.x).isContrary(), api.ErrContrary)
}

func noWorld(x given) api.Errno {
	return errorIf(len(x.world) != x.n || !areWithoutGap(x.world), api.ErrArg)
}

func manyThings(x given) api.Errno { return errorIf(x.n > 7, api.ErrLimit) }

func noKind(x given) api.Errno {
	return errorIf(x.kind != api.ReadBefore && x.kind != api.ReadAfter && x.kind != api.ReadSame, api.ErrArg)
}

func nothingNew(x given) api.Errno {
	y := x.x
	isThing := func(thing int) bool { return 1 <= thing && thing <= x.n }
	return errorIf(y.Kind < 1 || y.Kind > 3 || !isThing(y.A) || !isThing(y.B) || y.A == y.B || y.Of != 0, api.ErrArg)
}

func backwards(x given) api.Errno { return errorIf(x.until < x.known, api.ErrArg) }

// first returns the first error in order.
func first(errors []api.Errno) api.Errno {
	i := slices.IndexFunc(errors, func(e api.Errno) bool { return e != api.OK })
	if i < 0 {
		return api.OK
	}
	return errors[i]
}

// flawed are lists with errors of Check, for the number of things, and some without.
var flawed = []struct {
	name string
	n    int
	l    []api.Observation
}{
	{"the chapter's", 4, chapterList()},
	{"no things", 0, nil},
	{"7 things", 7, facts("1 over 1 2", "2 apart 3 4")},
	{"8 things", 8, facts("1 over 1 2", "2 same 3 4")},
	{"24 things", 24, nil},
	{"a conflict", 3, facts("1 over 1 2", "2 over 2 1")},
	{"12 that count", 2, many(12)},
	{"13 that count", 2, many(13)},
	{"300", 2, many(300)},
	{"301", 2, many(301)},
	{"25 things", 25, nil},
	{"-1 things", -1, chapterList()},
	{"a thing that is none", 3, chapterList()},
	{"an earlier day", 2, list("1 5 1 over 1 2", "2 4 1 over 1 2")},
	{"an Id twice, and a conflict", 2, facts("1 over 1 2", "1 over 2 1")},
	{"a void of nothing", 2, facts("1 over 1 2", "2 void 3")},
	{"a void of another reader's", 2, list("1 0 1 over 1 2", "2 0 2 void 1")},
	{"not well-formed", 4, []api.Observation{{}}},
}

// H1 to H16, R1, R2: the first errors in their order, and zero values with them.
func TestErrors(t *testing.T) {
	news := []api.Observation{list("6 7 1 over 1 2")[0], list("6 7 1 over 2 1")[0], list("6 7 1 same 3 4")[0], list("1 0 1 apart 1 2")[0], {}, list("6 7 2 void 3")[0], {Kind: api.ObOver, A: 1, B: 1}}
	for i, f := range flawed {
		for _, things := range []api.Pair{{A: 1, B: 2}, {A: 2, B: 2}, {A: 0, B: 1}, {A: 1, B: f.n + 1}, {A: f.n + 1, B: 1}, {A: huge, B: tiny}} {
			for j, kind := range []uint8{0, 1, 2, 3, 4, 5, 255} {
				known := p(0, 6, 7, -1)[(i+j)%4]
				x := given{n: f.n, l: f.l, known: known, until: known + j - 1, a: things.A, b: things.B, kind: kind, ids: p(2, 1), x: news[(i+j)%len(news)]}
				x.world = [][]int{nil, p(1, 2), p(1, 2, 3), p(1, 1, 2, 2), p(2, 2, 2, 2), from(1, 24), p(1)}[j]
				mustFail(t, f.name, x)
			}
		}
	}
}

// mustFail calls all functions that ask Check, and compares their errors with the first one that there is.
func mustFail(t *testing.T, name string, x given) {
	t.Helper()
	_, e := checked(x.n, x.l)
	if x.n < 0 || x.n > 24 {
		e = api.ErrArg
	}
	for _, c := range calls {
		if !c.checked {
			continue
		}
		wanted := e
		if e == api.OK {
			wanted = first(c.errors(x))
		}
		got := c.of(x)
		want(t, "the error of "+c.name+" with "+name, got[len(got)-1], wanted)
		for _, v := range got[:len(got)-1] {
			if wanted != api.OK && c.name != "Check" && !isZero(v) {
				t.Errorf("%s with %s: %v with an error", c.name, name, v)
			}
		}
	}
}

// example returns arguments for which no function has an error. Slices with room behind them would show a function that appends to its arguments.
func example() given {
	x := given{n: 4, l: chapterList(), known: 5, until: 7, a: 1, b: 3, kind: api.ReadBefore, line: "6 9 2 apart 4 2", o: api.Order{N: 4, Arcs: pairs(0, 1), Near: pairs(0, 1, 1, 3)}}
	x.x = list("6 9 2 apart 4 2")[0]
	x.ids, x.world, x.days = slices.Grow(p(1, 2), 9), slices.Grow(p(1, 2, 2, 3), 9), slices.Grow(p(3, 9, 4, 1), 9)
	x.l, x.o.Arcs, x.o.Near = slices.Grow(x.l, 9), slices.Grow(x.o.Arcs, 9), slices.Grow(x.o.Near, 9)
	return x
}

// untouched reports whether nothing is in the room behind a list.
func untouched[T comparable](l []T) bool {
	var none T
	return !slices.ContainsFunc(l[len(l):cap(l)], func(x T) bool { return x != none })
}

func (x given) roomy() bool {
	return untouched(x.l) && untouched(x.ids) && untouched(x.world) && untouched(x.days) && untouched(x.o.Arcs) && untouched(x.o.Near)
}

// R3 and R4: functions leave their arguments alone, results are new memory, and calls leave no trace.
func TestArgumentsStay(t *testing.T) {
	contrary := given{n: 3, l: facts("3 over 1 2", "2 over 2 1", "1 same 1 3"), known: 1, until: 1, a: 2, b: 1, kind: 3, x: fact("over 1 3"), ids: p(2, 3), world: p(1, 2, 1), days: p(5, 5, 1), line: "x", o: api.Order{N: 3}}
	for _, start := range []func() given{example, func() given { x := example(); x.known = 6; return x }} {
		for _, c := range calls {
			x := start()
			first := c.of(x)
			for _, c := range calls {
				c.of(contrary)
			}
			want(t, c.name+" once more", c.of(x), first)
			want(t, "the arguments of "+c.name, same(x, start()), true)
			want(t, "the room behind the arguments of "+c.name, x.roomy(), true)
			if e, is := first[len(first)-1].(api.Errno); is && x.known == 5 {
				want(t, "the error of "+c.name, e, api.OK)
			}
		}
	}
}

// R3: no two classes share memory, and neither do lists that grow from one.
func TestListsOfResults(t *testing.T) {
	classes, _ := reading.Classes(5, facts("1 same 1 4", "2 same 2 5"), 0)
	for i := range classes {
		classes[i] = append(classes[i], 99)
	}
	want(t, "classes beside others that grew", classes, [][]int{p(1, 4, 99), p(2, 5, 99), p(3, 99)})
	l := slices.Grow(chapterList(), 9)
	one, _ := reading.Append(4, l, list("6 9 2 apart 4 2")[0])
	other, _ := reading.Append(4, l, list("7 9 2 same 4 2")[0])
	_, _ = reading.Append(4, one, list("8 9 2 same 1 2")[0])
	wants(t, "lists that grew", of(one[5], other[5]), list("6 9 2 apart 4 2")[0], list("7 9 2 same 4 2")[0])
	counting := reading.Counting(l, 9)
	counting[0].Id = 99
	want(t, "the list of which some count", l[0].Id, 1)
}

// R3: a nil slice and an empty one are equivalent, also within structs.
func TestNilAndEmpty(t *testing.T) {
	none := func(x given) given {
		x.l, x.ids, x.world, x.days, x.o.Arcs, x.o.Near = nil, nil, nil, nil, nil, nil
		return x
	}
	empty := func(x given) given {
		x.l, x.ids, x.world, x.days = []api.Observation{}, []int{}, []int{}, []int{}
		x.o.Arcs, x.o.Near = []api.Pair{}, []api.Pair{}
		return x
	}
	for _, x := range []given{{}, example(), {n: 2, a: 1, b: 2, kind: 1, x: fact("over 1 2")}} {
		for _, c := range calls {
			want(t, c.name+" of empty slices", c.of(empty(x)), c.of(none(x)))
		}
	}
}

// R1: no function panics, whatever the fields are.
func TestAnyNumbers(t *testing.T) {
	few := []int{tiny, tiny + 1, -1000, -1, 0, 0, 1, 1, 2, 2, 3, 3, 4, 4, 5, 6, 7, 8, 12, 13, 23, 24, 25, 26, 31, 32, 63, 64, 299, 300, 301, 2000, 2001, 100000, 100001, 1000000, 1000001, huge - 1, huge}
	words := []string{"", " ", "1", "0", "over", "same", "apart", "void", "24", "25", "-1", "1000001", "\n", "\xff", "1 0 1 ", " 1 2", "over 1 2", "void 3", strings.Repeat(" ", 3000), strings.Repeat("9", 3000)}
	d := &dice{71}
	n := func() int { return few[d.roll(len(few))] }
	observation := func() api.Observation {
		return api.Observation{Id: n(), Known: n(), Reader: n(), Kind: uint8(d.roll(6)), A: n(), B: n(), Of: n()}
	}
	for range 4000 {
		x := example()
		switch d.roll(5) {
		case 0:
			x.l[d.roll(len(x.l))] = observation()
		case 1:
			x.n = n()
		case 2:
			x.n = 2 + d.roll(5)
			x.l = d.list(x.n, 8)
		case 3:
			x.l = []api.Observation{observation(), observation()}
		}
		x.known, x.until, x.a, x.b, x.kind, x.x = n(), n(), n(), n(), uint8(n()), observation()
		if d.roll(2) == 0 {
			x.a, x.b, x.x = 1+d.roll(4), 1+d.roll(4), d.fact(4)
		}
		x.ids, x.world, x.days = p(n(), n(), n())[:d.roll(4)], p(n(), n(), n(), n())[:d.roll(5)], p(n(), n(), n(), n())[:d.roll(5)]
		x.line = words[d.roll(len(words))] + words[d.roll(len(words))] + words[d.roll(len(words))]
		if d.roll(3) == 0 {
			x.o = api.Order{N: n(), Arcs: pairs(n(), n()), Near: pairs(n(), n())}
		}
		for _, c := range calls {
			c.of(x)
		}
	}
}

// R1: long lists that are not valid.
func TestLongLists(t *testing.T) {
	l := many(100000)
	for i := range l {
		l[i].Id = i%5 - 2
	}
	l = append(l, api.Observation{Kind: api.ObVoid, Of: 2})
	want(t, "how many of a long list count", len(reading.Counting(l, 0)), 80000)
	wants(t, "Check of a long list", of(reading.Check(2, l)), 0, api.ErrArg)
	wants(t, "Check of another long list", of(reading.Check(2, many(100000))), 300, api.ErrLimit)
	wants(t, "CheckConflict of long Ids", of(reading.CheckConflict(2, many(300), 0, from(1, 100000))), false, api.OK)
	wants(t, "CheckWorld of a long list", of(reading.CheckWorld(2, nil, 0, from(1, 100000))), false, api.OK)
}
