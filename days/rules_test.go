package days_test

import (
	"reflect"
	"slices"
	"strconv"
	"testing"

	"giornata/api"
	"giornata/days"
)

// given are arguments of all functions.
type given struct {
	s api.Sheet
	l api.Limits
	p []int
	d api.Division
	t api.Table
}

// answer is the results of a call, and the error that came with them.
type answer struct {
	values []any
	e      api.Errno
}

func one(value any, e api.Errno) answer { return answer{[]any{value}, e} }

// call is a function with some of the arguments, which spoils what it gets, and returns it spelt out.
type call struct {
	name                             string
	limited, patched, divided, small bool
	of                               func(x given) answer
}

// spoil returns a copy of a list, of which it spoils the memory.
func spoil[T any](l []T, with T) []T {
	out := slices.Clone(l)
	l = l[:cap(l)]
	for i := range l {
		l[i] = with
	}
	return out
}

func spoilLists(l [][]int) [][]int {
	var out [][]int
	for _, x := range l {
		out = append(out, spoil(x, 99))
	}
	spoil(l, p(99))
	return out
}

func spoilDivision(d api.Division) api.Division { return api.Division{Patches: spoilLists(d.Patches)} }

func spoilTable(t api.Table) api.Table { return api.Table{Values: spoil(t.Values, api.Cost{Days: 99})} }

// calls are the functions that have a sheet.
var calls = []call{
	{"Work", false, true, false, false, func(x given) answer { n, e := days.Work(x.s, x.p); return one(n, e) }},
	{"Reach", true, true, false, false, func(x given) answer { l, e := days.Reach(x.s, x.l, x.p); return one(spoil(l, 99), e) }},
	{"Joined", false, true, false, false, func(x given) answer { is, e := days.Joined(x.s, x.p); return one(is, e) }},
	{"Fits", true, true, false, false, func(x given) answer { why, e := days.Fits(x.s, x.l, x.p); return one(why, e) }},
	{"Patches", true, false, false, true, func(x given) answer { l, e := days.Patches(x.s, x.l); return one(spoilLists(l), e) }},
	{"Check", true, false, true, false, func(x given) answer {
		at, why, e := days.Check(x.s, x.l, x.d)
		return answer{[]any{at, why}, e}
	}},
	{"Seams", false, false, true, false, func(x given) answer { l, e := days.Seams(x.s, x.d); return one(spoil(l, 99), e) }},
	{"CostOf", false, false, true, false, func(x given) answer { c, e := days.CostOf(x.s, x.d); return one(c, e) }},
	{"Unions", true, false, true, false, func(x given) answer {
		l, e := days.Unions(x.s, x.l, x.d)
		return one(spoil(l, api.Pair{A: 99}), e)
	}},
	{"Least", true, false, false, true, func(x given) answer {
		d, t, e := days.Least(x.s, x.l)
		return answer{[]any{spoilDivision(d), spoilTable(t)}, e}
	}},
	{"CheckLeast", true, false, true, true, func(x given) answer { is, e := days.CheckLeast(x.s, x.l, x.d, x.t); return one(is, e) }},
	{"Best", true, false, true, true, func(x given) answer { is, e := days.Best(x.s, x.l, x.d); return one(is, e) }},
	{"Count", true, false, false, true, func(x given) answer { n, e := days.Count(x.s, x.l); return one(n, e) }},
	{"Together", true, false, false, true, func(x given) answer {
		l, e := days.Together(x.s, x.l)
		return one(spoil(l, api.Pair{A: 99}), e)
	}},
	{"Frontier", true, false, false, true, func(x given) answer {
		l, e := days.Frontier(x.s, x.l)
		return one(spoil(l, api.Cost{Days: 99}), e)
	}},
	{"Apart", true, false, false, true, func(x given) answer { l, e := days.Apart(x.s, x.l); return one(spoil(l, 99), e) }},
	{"CheckApart", true, true, false, true, func(x given) answer { is, e := days.CheckApart(x.s, x.l, x.p); return one(is, e) }},
	{"Better", true, false, true, false, func(x given) answer {
		d, is, e := days.Better(x.s, x.l, x.d)
		return answer{[]any{spoilDivision(d), is}, e}
	}},
	{"Improve", true, false, true, false, func(x given) answer {
		d, e := days.Improve(x.s, x.l, x.d)
		return one(spoilDivision(d), e)
	}},
}

// texts are the functions that have no sheet.
var texts = []call{
	{"Normal", false, false, true, false, func(x given) answer { d, e := days.Normal(x.d); return one(spoilDivision(d), e) }},
	{"Write", false, false, true, false, func(x given) answer { text, e := days.Write(x.d); return one(text, e) }},
	{"Read", false, false, false, false, func(x given) answer { d, e := days.Read("day 0 1\nday 2 3\n"); return one(spoilDivision(d), e) }},
	{"WriteLimits", true, false, false, false, func(x given) answer { line, e := days.WriteLimits(x.l); return one(line, e) }},
	{"ReadLimits", false, false, false, false, func(x given) answer {
		l, e := days.ReadLimits("limits 400 0 10")
		return one(api.Limits{Minutes: l.Minutes, Stages: spoil(l.Stages, api.Stage{From: 99})}, e)
	}},
}

// isZero reports whether a value is zero, where empty slices are nil, also within structs.
func isZero(v any) bool { return same(v, reflect.Zero(reflect.TypeOf(v)).Interface()) }

// flaw is what is wrong with one of the arguments.
type flaw struct {
	name string
	make func(x *given)
	want api.Errno
}

var none = flaw{"", func(*given) {}, api.OK}

var sheetFlaws = []flaw{none,
	{"a seam of a cell with itself", func(x *given) { x.s.Seams = append(x.s.Seams, api.Seam{}) }, api.ErrArg},
	{"25 cells", func(x *given) { x.s = chain(25) }, api.ErrLimit},
}

var limitFlaws = []flaw{none,
	{"no minutes", func(x *given) { x.l.Minutes = 0 }, api.ErrArg},
	{"no stages", func(x *given) { x.l.Stages = nil }, api.ErrArg},
}

var patchFlaws = []flaw{none,
	{"a cell below 0", func(x *given) { x.p = p(0, -1) }, api.ErrArg},
	{"a cell that is not there", func(x *given) { x.p = p(0, len(x.s.Cells)) }, api.ErrArg},
	{"the greatest cell", func(x *given) { x.p = p(huge) }, api.ErrArg},
	{"the least cell", func(x *given) { x.p = p(tiny) }, api.ErrArg},
	{"a cell twice", func(x *given) { x.p = p(1, 0, 1) }, api.ErrTwice},
	{"a cell twice before one below 0", func(x *given) { x.p = p(1, 1, -1) }, api.ErrTwice},
	{"a cell below 0 before one twice", func(x *given) { x.p = p(-1, 1, 1) }, api.ErrArg},
	{"a cell below 0 twice", func(x *given) { x.p = p(-1, -1) }, api.ErrArg},
}

var divisionFlaws = []flaw{none,
	{"a cell below 0", func(x *given) { x.d.Patches[1] = p(-1) }, api.ErrArg},
	{"a cell that is not there", func(x *given) { x.d.Patches[2] = p(2, len(x.s.Cells)) }, api.ErrArg},
	{"any cell", func(x *given) { x.d.Patches[0] = p(huge, tiny) }, api.ErrArg},
	{"an empty patch", func(x *given) { x.d.Patches = slices.Insert(x.d.Patches, 1, nil) }, api.ErrArg},
	{"an empty patch at the end", func(x *given) { x.d.Patches = append(x.d.Patches, nil) }, api.ErrArg},
	{"a cell twice in a patch", func(x *given) { x.d.Patches[1] = p(1, 1) }, api.ErrTwice},
	{"a cell in two patches", func(x *given) { x.d.Patches[1] = p(1, 0) }, api.ErrTwice},
	{"a cell twice before an empty patch", func(x *given) { x.d.Patches[1], x.d.Patches[2] = p(0), nil }, api.ErrTwice},
	{"an empty patch before a cell twice", func(x *given) { x.d.Patches[0], x.d.Patches[2] = nil, p(1) }, api.ErrArg},
	{"a cell in no patch", func(x *given) { x.d.Patches = x.d.Patches[1:] }, api.ErrNone},
	{"no patches", func(x *given) { x.d.Patches = nil }, api.ErrNone},
	{"a cell twice and one in no patch", func(x *given) { x.d.Patches[1] = p(0) }, api.ErrTwice},
}

// first returns the first error in order.
func first(errors ...api.Errno) api.Errno {
	i := slices.IndexFunc(errors, func(e api.Errno) bool { return e != api.OK })
	if i < 0 {
		return api.OK
	}
	return errors[i]
}

// mustFail calls a function with n cells and some flaws, and compares the error with the first of theirs.
func mustFail(t *testing.T, c call, n int, sheet, limit, patch, div flaw) {
	t.Helper()
	x := given{s: chain(n), l: limits(10000, 0, 1), p: p(1, 0), d: singles(n), t: api.Table{Values: make([]api.Cost, 1<<min(n, 13))}}
	patch.make(&x)
	div.make(&x)
	sheet.make(&x)
	limit.make(&x)
	var errors []api.Errno
	errors = append(errors, sheet.want)
	if c.limited {
		errors = append(errors, limit.want)
	}
	if c.patched {
		errors = append(errors, patch.want)
	}
	if c.divided {
		errors = append(errors, div.want)
	}
	if c.small && n > 12 {
		errors = append(errors, api.ErrLimit)
	}
	got := c.of(x)
	name := c.name + " of " + strconv.Itoa(n) + " cells with " + sheet.name + ", " + limit.name + ", " + patch.name + ", " + div.name
	want(t, name, got.e, first(errors...))
	for _, v := range got.values {
		if got.e != api.OK && !isZero(v) {
			t.Errorf("%s: %v with an error", name, v)
		}
	}
}

// D2 to D15, R1, R2: the first errors in their order, those that are marked with *, and zero values with them.
func TestErrors(t *testing.T) {
	for _, c := range calls {
		for _, n := range []int{4, 12, 13, 24} {
			for _, sheet := range sheetFlaws {
				for _, limit := range limitFlaws {
					for _, patch := range patchFlaws {
						mustFail(t, c, n, sheet, limit, patch, none)
					}
					for _, div := range divisionFlaws {
						mustFail(t, c, n, sheet, limit, none, div)
					}
				}
			}
		}
	}
}

// D14, D15: that a division is not right comes behind the first errors.
func TestErrorsOfWrongDivisions(t *testing.T) {
	for _, c := range calls {
		if c.name != "Better" && c.name != "Improve" {
			continue
		}
		for _, x := range []struct {
			d    api.Division
			want api.Errno
		}{{division(p(0, 2), p(1)), api.ErrArg}, {division(p(0, 2), p(0, 1)), api.ErrTwice}, {division(p(0, 2)), api.ErrNone}} {
			got := c.of(given{s: chain(3), l: limits(2, 0, 1), d: x.d})
			want(t, c.name, got.e, x.want)
			for _, v := range got.values {
				want(t, c.name, isZero(v), true)
			}
		}
	}
}

// example returns the chapter's arguments. Slices with room behind them would show a function that appends to its arguments.
func example() given {
	x := given{s: chapterSheet(), l: chapterLimits(), p: slices.Grow(p(1, 0), 9), d: division(slices.Grow(p(3, 2), 9), slices.Grow(p(1), 9), slices.Grow(p(0), 9))}
	x.s.Cells, x.s.Seams, x.l.Stages = slices.Grow(x.s.Cells, 9), slices.Grow(x.s.Seams, 9), slices.Grow(x.l.Stages, 9)
	x.d.Patches = slices.Grow(x.d.Patches, 9)
	x.t.Values = slices.Grow(modelOf(x.s, x.l).table().Values, 9)
	return x
}

// untouched reports whether nothing is in the room behind a list.
func untouched[T any](l []T) bool {
	return !slices.ContainsFunc(l[len(l):cap(l)], func(x T) bool { return !isZero(x) })
}

// R3 and R4: functions leave their arguments alone, results are new memory, and calls leave no trace.
func TestArgumentsStay(t *testing.T) {
	x, other := example(), given{s: chain(3), l: alone(), p: p(2), d: singles(3)}
	for _, c := range slices.Concat(calls, texts) {
		first := c.of(x)
		for _, c := range slices.Concat(calls, texts) {
			c.of(other)
		}
		if again := c.of(x); !same(first, again) {
			t.Errorf("%s: first %v, then %v", c.name, first, again)
		}
		if !same(x, example()) {
			t.Fatalf("%s changes an argument", c.name)
		}
		room := untouched(x.s.Cells) && untouched(x.s.Seams) && untouched(x.l.Stages) && untouched(x.p) && untouched(x.d.Patches) && untouched(x.t.Values)
		for _, patch := range x.d.Patches {
			room = room && untouched(patch)
		}
		if !room {
			t.Fatalf("%s writes behind an argument", c.name)
		}
	}
}

// R3: no two lists of a result share memory.
func TestListsOfResults(t *testing.T) {
	x := example()
	patches, _ := days.Patches(x.s, x.l)
	least, _, _ := days.Least(x.s, x.l)
	normal, _ := days.Normal(x.d)
	better, _, _ := days.Better(x.s, x.l, x.d)
	improved, _ := days.Improve(x.s, x.l, x.d)
	read, _ := days.Read("day 0 1\nday 2 3\n")
	for i, l := range [][][]int{patches, least.Patches, normal.Patches, better.Patches, improved.Patches, read.Patches} {
		var kept [][]int
		for _, patch := range l {
			kept = append(kept, slices.Clone(patch))
		}
		for j := range l {
			l[j] = append(l[j], 99)
		}
		for j := range l {
			want(t, "result "+strconv.Itoa(i)+": a list behind others that grew", l[j], append(kept[j], 99))
		}
	}
}

// R3: a nil slice and an empty one are equivalent, also within structs.
func TestNilAndEmpty(t *testing.T) {
	x := example()
	empty := given{s: api.Sheet{Cells: []api.Cell{}, Seams: []api.Seam{}}, l: x.l, p: p(), d: division([][]int{}...), t: api.Table{Values: []api.Cost{}}}
	for _, c := range slices.Concat(calls, texts) {
		want(t, c.name+" of empty slices", c.of(empty), c.of(given{l: x.l}))
	}
	wants(t, "Fits of an empty patch", of(days.Fits(x.s, x.l, p())), api.FitEmpty, api.OK)
	wants(t, "CheckLimits", of(0, days.CheckLimits(api.Limits{Minutes: 1, Stages: []api.Stage{}})), 0, api.ErrArg)
	wants(t, "Normal with an empty patch", of(days.Normal(division(p()))), division(), api.ErrArg)
	wants(t, "CostOf with an empty patch", of(days.CostOf(api.Sheet{}, division(p()))), api.Cost{}, api.ErrArg)
}

// R1: no function panics, whatever the fields are.
func TestAnyNumbers(t *testing.T) {
	numbers := []int{tiny, tiny + 1, -1, 0, 1, 2, 3, 4, 11, 12, 13, 23, 24, 25, 31, 32, 63, 64, 10000, 10001, huge - 1, huge}
	d := &dice{16}
	n := func() int { return numbers[d.roll(len(numbers))] }
	for range 3000 {
		x := example()
		switch d.roll(4) {
		case 0:
			x.s = chain(d.roll(70))
		case 1:
			x.s.Cells[d.roll(4)] = api.Cell{Faces: []int{n()}, Work: n(), Low: n(), High: n()}
		case 2:
			x.s.Seams[d.roll(4)] = api.Seam{A: n(), B: n(), Price: n(), Upper: uint8(n())}
		}
		if d.roll(3) == 0 {
			x.l = limits(n(), n(), n(), n(), n())
		}
		if d.roll(2) == 0 {
			x.p = []int{n(), n(), n()}[:d.roll(4)]
			x.d.Patches[d.roll(3)] = []int{n(), n(), n()}[:d.roll(4)]
		}
		for range d.roll(3) {
			x.t.Values[d.roll(len(x.t.Values))] = api.Cost{Days: n(), Seam: n()}
		}
		x.t.Values = x.t.Values[:d.roll(len(x.t.Values)+1)]
		for _, c := range slices.Concat(calls, texts) {
			c.of(x)
		}
		text := ""
		for range d.roll(12) {
			text += []string{"day", "limits", " ", "\n", " 1", " 2", strconv.Itoa(n()), " " + strconv.Itoa(n()), "day 0\n", "\xff"}[d.roll(10)]
		}
		days.Read(text)
		days.ReadLimits(text)
		days.CheckLimits(x.l)
	}
}
