package order_test

import (
	"reflect"
	"slices"
	"strconv"
	"testing"

	"giornata/api"
	"giornata/order"
)

// given are arguments of all functions.
type given struct {
	o, q      api.Order
	l, days   []int
	chains    [][]int
	k, dry, a int
	s         api.Sheet
	d         api.Division
}

// answer is the results of a call, and the error that came with them.
type answer struct {
	values []any
	e      api.Errno
}

func one(value any, e api.Errno) answer { return answer{[]any{value}, e} }

// call is a function with some of the arguments, which spoils what it gets, and returns it spelt out.
// Its errors are those that come behind that of Check, in their order.
type call struct {
	name   string
	of     func(x given) answer
	errors func(x given) []api.Errno
}

// spoil returns a copy of a list, of which it spoils the memory.
func spoil[T any](l []T, with T) []T {
	out := slices.Clone(l)
	l = l[:cap(l)]
	for i := range l {
		l[i] = with
	}
	return out
}

func spoilLists(l [][]int) [][]int {
	var out [][]int
	for _, x := range l {
		out = append(out, spoil(x, 99))
	}
	spoil(l, p(99))
	return out
}

func spoilPairs(l []api.Pair) []api.Pair { return spoil(l, api.Pair{A: 99}) }

func spoilOrder(o api.Order) api.Order {
	return api.Order{N: o.N, Arcs: spoilPairs(o.Arcs), Near: spoilPairs(o.Near)}
}

func list(l []int, e api.Errno) answer { return one(spoil(l, 99), e) }

func changed(o api.Order, e api.Errno) answer { return one(spoilOrder(o), e) }

// calls are the functions that return an error of Check.
var calls = []call{
	{"Check", func(x given) answer { return answer{nil, order.Check(x.o)} }, errors()},
	{"First", func(x given) answer { return list(order.First(x.o)) }, errors(circle)},
	{"CheckOrder", func(x given) answer { is, e := order.CheckOrder(x.o, x.l); return one(is, e) }, errors()},
	{"Levels", func(x given) answer { return list(order.Levels(x.o)) }, errors(circle)},
	{"Close", func(x given) answer { return changed(order.Close(x.o)) }, errors()},
	{"Reduce", func(x given) answer { return changed(order.Reduce(x.o)) }, errors(circle)},
	{"Count", func(x given) answer { n, e := order.Count(x.o); return one(n, e) }, errors(more(12))},
	{"Rank", func(x given) answer { n, e := order.Rank(x.o, x.l); return one(n, e) }, errors(more(12), noOrder)},
	{"Nth", func(x given) answer { return list(order.Nth(x.o, x.k)) }, errors(more(12), noNumber)},
	{"Free", func(x given) answer { return list(order.Free(x.o)) }, errors(circle)},
	{"Chains", func(x given) answer { l, e := order.Chains(x.o); return one(spoilLists(l), e) }, errors(circle)},
	{"Least", func(x given) answer { l, e := order.Least(x.o); return one(spoilPairs(l), e) }, errors(more(8), manyArcs)},
	{"Days", func(x given) answer { return list(order.Days(x.o, x.dry, x.l)) }, errors(noDry, noOrder)},
	{"CheckDays", func(x given) answer { is, e := order.CheckDays(x.o, x.dry, x.days); return one(is, e) }, errors(noDry)},
	{"Reasons", func(x given) answer {
		l, e := order.Reasons(x.o, x.dry, x.l)
		return one(spoil(l, api.Reason{Patch: 99}), e)
	}, errors(noDry, noOrder)},
	{"Wait", func(x given) answer {
		s, e := order.Wait(x.o, x.dry)
		return one(api.Schedule{Order: spoil(s.Order, 99), Days: spoil(s.Days, 99)}, e)
	}, errors(noDry, more(8), circle)},
	{"Restrict", func(x given) answer { return changed(order.Restrict(x.o, x.l)) }, errors(noPatches)},
	{"Join", func(x given) answer { return changed(order.Join(x.o, x.q)) }, errors(wrongOther, otherN)},
}

// others are the functions that return no error of Check.
var others = []call{
	{"From", func(x given) answer { return changed(order.From(x.s, x.d)) }, nil},
	{"Standing", func(x given) answer { return one(order.Standing(x.o, x.a, x.k), api.OK) }, nil},
	{"Circle", func(x given) answer { l, is := order.Circle(x.o); return answer{[]any{spoil(l, 99), is}, api.OK} }, nil},
	{"CheckCircle", func(x given) answer { return one(order.CheckCircle(x.o, x.l), api.OK) }, nil},
	{"CheckFree", func(x given) answer { return one(order.CheckFree(x.o, x.l, x.chains), api.OK) }, nil},
}

// errors returns what finds the errors of some causes.
func errors(causes ...func(x given) api.Errno) func(x given) []api.Errno {
	return func(x given) []api.Errno {
		var out []api.Errno
		for _, cause := range causes {
			out = append(out, cause(x))
		}
		return out
	}
}

func errorIf(is bool, e api.Errno) api.Errno {
	if is {
		return e
	}
	return api.OK
}

func more(most int) func(x given) api.Errno {
	return func(x given) api.Errno { return errorIf(x.o.N > most, api.ErrLimit) }
}

func manyArcs(x given) api.Errno { return errorIf(len(x.o.Arcs) > 16, api.ErrLimit) }

func circle(x given) api.Errno { return errorIf(isCircular(x.o), api.ErrCircle) }

func noDry(x given) api.Errno { return errorIf(x.dry < 0 || x.dry > 30, api.ErrArg) }

func noOrder(x given) api.Errno {
	return errorIf(!areDifferent(x) || !(model{Order: x.o}).isOrder(x.l), api.ErrArg)
}

func noPatches(x given) api.Errno { return errorIf(!areDifferent(x), api.ErrArg) }

// noNumber returns an error for the numbers that the tests give Nth too many.
func noNumber(x given) api.Errno { return errorIf(isCircular(x.o) || x.k != 0, api.ErrArg) }

func wrongOther(x given) api.Errno { return order.Check(x.q) }

func otherN(x given) api.Errno { return errorIf(x.o.N != x.q.N, api.ErrArg) }

// areDifferent reports whether a list has different patches.
func areDifferent(x given) bool {
	l := slices.Sorted(slices.Values(x.l))
	return len(slices.Compact(slices.Clone(l))) == len(l) && (len(l) == 0 || l[0] >= 0 && l[len(l)-1] < x.o.N)
}

// isCircular reports whether a circle is left if one patch after the other is taken away that nothing has to be laid before.
func isCircular(o api.Order) bool {
	left := patches(o.N)
	for range o.N {
		left = slices.DeleteFunc(left, func(b int) bool {
			return !slices.ContainsFunc(o.Arcs, func(x api.Pair) bool { return x.B == b && slices.Contains(left, x.A) })
		})
	}
	return len(left) > 0
}

// isZero reports whether a value is zero, where empty slices are nil, also within structs.
func isZero(v any) bool { return same(v, reflect.Zero(reflect.TypeOf(v)).Interface()) }

// first returns the first error in order.
func first(errors ...api.Errno) api.Errno {
	i := slices.IndexFunc(errors, func(e api.Errno) bool { return e != api.OK })
	if i < 0 {
		return api.OK
	}
	return errors[i]
}

// problems are valid ones and others, of which each number is a limit or beside it.
func problems() []api.Order {
	out := []api.Order{chapterOrder(), chapterCircle(), dense(5, 16), dense(5, 17), problem(4, pairs(0, 0), nil), problem(4, nil, pairs(1, 0)), problem(26, pairs(0, 0), nil)}
	for _, n := range p(-1, 0, 8, 9, 12, 13, 24, 25) {
		out = append(out, row(n), ring(max(n, 2)))
	}
	return out
}

// E3 to E17, R1, R2: the first errors in their order, and zero values with them.
func TestErrors(t *testing.T) {
	for _, o := range problems() {
		for _, l := range [][]int{patches(o.N), p(-1), p(0, 0), p(o.N), p(huge, tiny)} {
			for _, dry := range p(0, 30, -1, 31) {
				for _, k := range p(0, -1, huge) {
					for _, q := range []api.Order{o, row(3), problem(2, pairs(0, 0), nil), problem(25, nil, nil)} {
						mustFail(t, given{o: o, q: q, l: l, days: l, k: k, dry: dry})
					}
				}
			}
		}
	}
}

// mustFail calls all functions, and compares their errors with the first one that there is.
func mustFail(t *testing.T, x given) {
	t.Helper()
	e := order.Check(x.o)
	for _, c := range calls {
		wanted := e
		if e == api.OK {
			wanted = first(c.errors(x)...)
		}
		got := c.of(x)
		if got.e != wanted {
			t.Errorf("%s of %v: error %d, want %d", c.name, x, got.e, wanted)
		}
		for _, v := range got.values {
			if got.e != api.OK && !isZero(v) {
				t.Errorf("%s of %v: %v with an error", c.name, x, v)
			}
		}
	}
	for _, c := range others[1:] {
		for _, v := range c.of(x).values {
			if e != api.OK && !isZero(v) {
				t.Errorf("%s of %v: %v for a problem that is not valid", c.name, x, v)
			}
		}
	}
}

// example returns the chapter's problem with arguments for it. Slices with room behind them would show a function that appends to its arguments.
func example() given {
	x := given{o: chapterOrder(), q: problem(4, pairs(1, 2, 3, 1), pairs(0, 3)), l: p(0, 2, 1, 3), days: p(0, 4, 1, 5), k: 1, dry: 2, a: 3}
	x.chains = [][]int{slices.Grow(p(0, 1, 3), 9), slices.Grow(p(2), 9)}
	x.s = sheet(seam(3, 0, api.UpBoth), seam(0, 1, api.UpA), seam(0, 2, api.UpB))
	x.d = division(slices.Grow(p(1), 9), slices.Grow(p(0, 2), 9), slices.Grow(p(3), 9))
	for _, o := range []*api.Order{&x.o, &x.q} {
		o.Arcs, o.Near = slices.Grow(o.Arcs, 9), slices.Grow(o.Near, 9)
	}
	x.l, x.days, x.chains = slices.Grow(x.l, 9), slices.Grow(x.days, 9), slices.Grow(x.chains, 9)
	x.s.Seams, x.d.Patches = slices.Grow(x.s.Seams, 9), slices.Grow(x.d.Patches, 9)
	return x
}

// untouched reports whether nothing is in the room behind a list.
func untouched[T any](l []T) bool {
	return !slices.ContainsFunc(l[len(l):cap(l)], func(x T) bool { return !isZero(x) })
}

// isUntouched reports whether nothing is in the room behind the lists of arguments.
func (x given) isUntouched() bool {
	is := untouched(x.o.Arcs) && untouched(x.o.Near) && untouched(x.q.Arcs) && untouched(x.q.Near) && untouched(x.l) && untouched(x.days) && untouched(x.chains)
	for _, l := range slices.Concat(x.chains, x.d.Patches) {
		is = is && untouched(l)
	}
	return is && untouched(x.s.Seams) && untouched(x.d.Patches)
}

// R3 and R4: functions leave their arguments alone, results are new memory, and calls leave no trace.
func TestArgumentsStay(t *testing.T) {
	other := given{o: chapterCircle(), q: row(4), l: p(3, 0, 1), days: p(9), dry: 1, chains: [][]int{p(0)}, s: sheet(seam(0, 1, 1)), d: division(p(0), p(1))}
	all := slices.Concat(calls, others)
	for _, c := range all {
		x := example()
		first := c.of(x)
		for _, c := range all {
			c.of(other)
		}
		if again := c.of(x); !same(first, again) {
			t.Errorf("%s: first %v, then %v", c.name, first, again)
		}
		if !same(x, example()) {
			t.Errorf("%s changes an argument", c.name)
		}
		if !x.isUntouched() {
			t.Errorf("%s writes behind an argument", c.name)
		}
	}
	circular := dense(4, 12)
	spoilPairs(must(t, "Least", of(order.Least(circular))))
	want(t, "the problem of which Least takes arcs", circular, dense(4, 12))
}

// R3: no two lists of a result share memory.
func TestListsOfResults(t *testing.T) {
	o := problem(6, pairs(0, 1, 2, 3, 4, 5), nil)
	chains := must(t, "Chains", of(order.Chains(o)))
	wait := must(t, "Wait", of(order.Wait(o, 1)))
	for i, l := range [][][]int{chains, {wait.Order, wait.Days}} {
		var kept [][]int
		for _, x := range l {
			kept = append(kept, slices.Clone(x))
		}
		for j := range l {
			l[j] = append(l[j], 99)
		}
		for j := range l {
			want(t, "result "+strconv.Itoa(i)+": a list behind others that grew", l[j], append(kept[j], 99))
		}
	}
	x := example()
	closed, _ := order.Close(x.o)
	reduced, _ := order.Reduce(x.o)
	restricted, _ := order.Restrict(x.o, x.l)
	joined, _ := order.Join(x.o, x.q)
	from, _ := order.From(x.s, x.d)
	for i, o := range []api.Order{closed, reduced, restricted, joined, from} {
		arcs, near := slices.Clone(o.Arcs), slices.Clone(o.Near)
		_ = append(o.Arcs, api.Pair{A: 99})
		want(t, "problem "+strconv.Itoa(i)+": neighbours beside arcs that grew", o.Near, near)
		_ = append(o.Near, api.Pair{A: 99})
		want(t, "problem "+strconv.Itoa(i)+": arcs beside neighbours that grew", o.Arcs, arcs)
	}
}

// R3: a nil slice and an empty one are equivalent, also within structs.
func TestNilAndEmpty(t *testing.T) {
	none := api.Order{N: 2, Arcs: []api.Pair{}, Near: []api.Pair{}}
	empty := given{o: none, q: none, l: p(), days: p(), chains: [][]int{}, s: api.Sheet{Cells: []api.Cell{}, Seams: []api.Seam{}}, d: division([][]int{}...)}
	for _, c := range slices.Concat(calls, others) {
		want(t, c.name+" of empty slices", c.of(empty), c.of(given{o: problem(2, nil, nil), q: problem(2, nil, nil)}))
	}
	want(t, "CheckFree with an empty chain", order.CheckFree(none, p(0, 1), [][]int{p(0, 1), p()}), false)
	wants(t, "From with empty patches", of(order.From(sheet(), division(p(), nil))), problem(2, nil, nil), api.OK)
}

// R1: no function panics, whatever the fields are.
func TestAnyNumbers(t *testing.T) {
	numbers := []int{tiny, tiny + 1, -1, 0, 1, 2, 3, 4, 7, 8, 9, 11, 12, 13, 16, 17, 23, 24, 25, 30, 31, 32, 63, 64, 2000, 2001, huge - 1, huge}
	d := &dice{16}
	n := func() int { return numbers[d.roll(len(numbers))] }
	for range 3000 {
		x := example()
		switch d.roll(5) {
		case 0:
			x.o.N = n()
		case 1:
			x.o.Arcs[d.roll(3)] = api.Pair{A: n(), B: n()}
		case 2:
			x.o.Near[d.roll(3)] = api.Pair{A: n(), B: n()}
		case 3:
			x.q.N, x.q.Arcs = n(), pairs(n(), n())
		}
		if d.roll(2) == 0 {
			x.l, x.days = []int{n(), n(), n(), n(), n()}[:d.roll(6)], []int{n(), n(), n(), n()}
			x.chains[d.roll(2)] = x.l
			x.k, x.dry, x.a = n(), n(), n()
		}
		x.s.Seams[d.roll(3)] = seam(n(), n(), uint8(n()))
		x.d.Patches[d.roll(3)] = []int{n(), n(), n()}[:d.roll(4)]
		for _, c := range slices.Concat(calls, others) {
			c.of(x)
		}
	}
}
