package order_test

import (
	"cmp"
	"reflect"
	"slices"
	"testing"

	"giornata/api"
	"giornata/order"
)

const (
	huge = int(^uint(0) >> 1)
	tiny = -huge - 1
)

// pairs returns pairs of numbers.
func pairs(numbers ...int) []api.Pair {
	var out []api.Pair
	for i := 1; i < len(numbers); i += 2 {
		out = append(out, api.Pair{A: numbers[i-1], B: numbers[i]})
	}
	return out
}

func problem(n int, arcs, near []api.Pair) api.Order { return api.Order{N: n, Arcs: arcs, Near: near} }

// chapterOrder returns the problem o of the chapter.
func chapterOrder() api.Order { return problem(4, pairs(0, 1, 0, 2, 1, 3), pairs(0, 1, 1, 2, 2, 3)) }

// chapterCircle returns the problem o of the chapter with {3, 0}.
func chapterCircle() api.Order { return problem(4, pairs(0, 1, 0, 2, 1, 3, 3, 0), chapterOrder().Near) }

// row returns a problem of n patches, each with an arc to the next one, and neighbours of it.
func row(n int) api.Order {
	o := problem(n, nil, nil)
	for i := 1; i < n; i++ {
		o.Arcs = append(o.Arcs, api.Pair{A: i - 1, B: i})
	}
	o.Near = slices.Clone(o.Arcs)
	return o
}

// ring returns the problem of a row with an arc from the last patch to the first one.
func ring(n int) api.Order {
	o := row(n)
	o.Arcs = append(o.Arcs, api.Pair{A: n - 1})
	return o
}

func p(patches ...int) []int { return patches }

// patches returns the first n patches.
func patches(n int) []int {
	var out []int
	for i := range n {
		out = append(out, i)
	}
	return out
}

// same compares results; nil and empty slices are equal, also within structs and lists.
func same(a, b any) bool { return alike(reflect.ValueOf(a), reflect.ValueOf(b)) }

func alike(a, b reflect.Value) bool {
	if !a.IsValid() || !b.IsValid() {
		return blank(a) && blank(b)
	}
	if a.Type() != b.Type() {
		return false
	}
	switch a.Kind() {
	case reflect.Interface:
		return alike(a.Elem(), b.Elem())
	case reflect.Slice:
		if a.Len() != b.Len() {
			return false
		}
		for i := range a.Len() {
			if !alike(a.Index(i), b.Index(i)) {
				return false
			}
		}
		return true
	case reflect.Struct:
		for i := range a.NumField() {
			if !alike(a.Field(i), b.Field(i)) {
				return false
			}
		}
		return true
	}
	return a.Equal(b)
}

// blank reports whether a value is nothing, or an empty slice, which are equivalent.
func blank(v reflect.Value) bool { return !v.IsValid() || v.Kind() == reflect.Slice && v.Len() == 0 }

func want(t *testing.T, name string, got, wanted any) {
	t.Helper()
	if !same(got, wanted) {
		t.Errorf("%s: %v, want %v", name, got, wanted)
	}
}

// result is a value and the error that came with it.
type result[T any] struct {
	value T
	e     api.Errno
}

func of[T any](value T, e api.Errno) result[T] { return result[T]{value, e} }

// wants compares a result with an error and with a value, which is nil or the zero value for errors.
func wants[T any](t *testing.T, name string, got result[T], value T, e api.Errno) {
	t.Helper()
	if got.e != e || !same(got.value, value) {
		t.Errorf("%s: %v, error %d, want %v, %d", name, got.value, got.e, value, e)
	}
}

// must returns a value that comes without an error.
func must[T any](t *testing.T, name string, got result[T]) T {
	t.Helper()
	if got.e != api.OK {
		t.Fatalf("%s: error %d", name, got.e)
	}
	return got.value
}

// found is what Circle says.
type found struct {
	l  []int
	is bool
}

func circleOf(o api.Order) found {
	l, is := order.Circle(o)
	return found{l, is}
}

// dice yields numbers that are the same in every run.
type dice struct{ state uint64 }

func (d *dice) roll(n int) int {
	d.state = d.state*6364136223846793005 + 1442695040888963407
	return int((d.state >> 33) % uint64(n))
}

func (d *dice) shuffled(n int) []int {
	var out []int
	for i := range n {
		out = slices.Insert(out, d.roll(i+1), i)
	}
	return out
}

// pairs returns some of all pairs of n patches, in order.
func (d *dice) pairs(n int, want func(a, b int) bool) []api.Pair {
	often := d.roll(8)
	var out []api.Pair
	for a := range n {
		for b := range n {
			if a != b && want(a, b) && d.roll(8) < often {
				out = append(out, api.Pair{A: a, B: b})
			}
		}
	}
	return out
}

// order returns a problem of n patches; half of them have an order that the dice choose.
func (d *dice) order(n int) api.Order {
	l := d.shuffled(n)
	want := func(a, b int) bool { return slices.Index(l, a) < slices.Index(l, b) }
	if d.roll(2) == 0 {
		want = func(a, b int) bool { return d.roll(3) == 0 }
	}
	return problem(n, d.pairs(n, want), d.pairs(n, func(a, b int) bool { return a < b }))
}

// model is what an order problem is by the words of the chapter alone: all lists of different patches, all circles and orders among them, and all pairs that chains connect.
type model struct {
	api.Order
	lists, circles, orders [][]int
	chained                map[api.Pair]bool
}

func modelOf(o api.Order) model {
	x := model{Order: o, lists: listsOf(o.N), chained: map[api.Pair]bool{}}
	slices.SortFunc(x.lists, compareLists)
	for _, l := range x.lists {
		if x.isCircle(l) && l[0] == slices.Min(l) {
			x.circles = append(x.circles, l)
		}
		if x.isOrder(l) {
			x.orders = append(x.orders, l)
		}
		if len(l) > 1 && x.isPath(l) {
			x.chained[api.Pair{A: l[0], B: l[len(l)-1]}] = true
		}
	}
	return x
}

// models returns models of problems of up to most patches.
func models(seed uint64, count, most int) []model {
	d := &dice{seed}
	var out []model
	for range count {
		out = append(out, modelOf(d.order(d.roll(most+1))))
	}
	return out
}

// listsOf returns all lists of different patches, of any length.
func listsOf(n int) [][]int {
	out := [][]int{nil}
	for i := 0; i < len(out); i++ {
		for p := range n {
			if !slices.Contains(out[i], p) {
				out = append(out, slices.Concat(out[i], []int{p}))
			}
		}
	}
	return out
}

// compareLists compares lists by their length, then element by element.
func compareLists(l, m []int) int { return cmp.Or(cmp.Compare(len(l), len(m)), slices.Compare(l, m)) }

func comparePairs(x, y api.Pair) int { return cmp.Or(cmp.Compare(x.A, y.A), cmp.Compare(x.B, y.B)) }

func (x model) hasArc(a, b int) bool { return slices.Contains(x.Arcs, api.Pair{A: a, B: b}) }

// isPath reports whether an arc leads from each patch but the last to the next one.
func (x model) isPath(l []int) bool {
	for i := 1; i < len(l); i++ {
		if !x.hasArc(l[i-1], l[i]) {
			return false
		}
	}
	return true
}

// isCircle reports whether a list of different patches is a circle.
func (x model) isCircle(l []int) bool {
	return len(l) > 1 && x.isPath(l) && x.hasArc(l[len(l)-1], l[0])
}

// isOrder reports whether a list of different patches is an order.
func (x model) isOrder(l []int) bool {
	return len(l) == x.N && !slices.ContainsFunc(x.Arcs, func(a api.Pair) bool { return slices.Index(l, a.A) > slices.Index(l, a.B) })
}

func (x model) leads(a, b int) bool { return x.chained[api.Pair{A: a, B: b}] }

func (x model) standing(a, b int) uint8 {
	switch to, from := x.leads(a, b), x.leads(b, a); {
	case to && from:
		return api.FreeContrary
	case to:
		return api.FreeBefore
	case from:
		return api.FreeAfter
	}
	return api.FreeNone
}

// sublists returns all parts of a list.
func sublists[T any](l []T) [][]T {
	out := [][]T{nil}
	for _, x := range l {
		for _, part := range out {
			out = append(out, slices.Concat(part, []T{x}))
		}
	}
	return out
}

func without[T comparable](l, others []T) []T {
	return slices.DeleteFunc(slices.Clone(l), func(x T) bool { return slices.Contains(others, x) })
}

// isFree reports whether no two patches of a list are connected by a chain.
func (x model) isFree(l []int) bool {
	for _, a := range l {
		for _, b := range l {
			if a != b && x.leads(a, b) {
				return false
			}
		}
	}
	return true
}

// free returns the first of the greatest sets of free patches.
func (x model) free() []int {
	var best []int
	for _, l := range sublists(patches(x.N)) {
		if x.isFree(l) && (len(l) > len(best) || len(l) == len(best) && slices.Compare(l, best) < 0) {
			best = l
		}
	}
	return best
}

// isChain reports whether a chain leads from each patch of a list to the next one.
func (x model) isChain(l []int) bool {
	for i := 1; i < len(l); i++ {
		if !x.leads(l[i-1], l[i]) {
			return false
		}
	}
	return true
}

// fewest returns how few lists of chains have each of some patches once.
func (x model) fewest(left []int) int {
	if len(left) == 0 {
		return 0
	}
	best := len(left)
	for _, l := range x.lists {
		if len(without(l, left)) == 0 && slices.Contains(l, left[0]) && x.isChain(l) {
			best = min(best, 1+x.fewest(without(left, l)))
		}
	}
	return best
}

// least returns the first one of the least lists of arcs without which there is an order.
func (x model) least() []api.Pair {
	best := x.Arcs
	for _, l := range sublists(x.Arcs) {
		if cmp.Or(cmp.Compare(len(l), len(best)), slices.CompareFunc(l, best, comparePairs)) < 0 && x.isOpenWithout(l) {
			best = l
		}
	}
	return best
}

// isOpenWithout reports whether there is an order without some arcs.
func (x model) isOpenWithout(arcs []api.Pair) bool {
	rest := model{Order: problem(x.N, without(x.Arcs, arcs), nil)}
	return slices.ContainsFunc(x.lists, func(l []int) bool { return rest.isOrder(l) })
}

// isKept reports whether n days are kept.
func (x model) isKept(dry int, days []int) bool {
	for i, day := range days {
		if day < 0 || day > 2000 || slices.Contains(days[:i], day) {
			return false
		}
	}
	for _, arc := range x.Arcs {
		if days[arc.A] >= days[arc.B] {
			return false
		}
	}
	for _, near := range x.Near {
		if d := days[near.A] - days[near.B]; -dry <= d && d <= dry {
			return false
		}
	}
	return true
}

// days finds the earliest days by trying one day after the other.
func (x model) days(dry int, l []int) []int {
	days := make([]int, x.N)
	for i, a := range l {
		for x.isTooEarly(dry, l[:i], a, days) {
			days[a]++
		}
	}
	return days
}

// isTooEarly reports whether a patch cannot be laid on its day after those that are laid before it.
func (x model) isTooEarly(dry int, before []int, a int, days []int) bool {
	return slices.ContainsFunc(before, func(b int) bool {
		near := slices.Contains(x.Near, api.Pair{A: min(a, b), B: max(a, b)})
		return days[a] <= days[b] || near && days[a] <= days[b]+dry
	})
}

// wait returns the first order that ends first, by looking at all of them.
func (x model) wait(dry int) api.Schedule {
	var best api.Schedule
	for _, l := range x.orders {
		days := x.days(dry, l)
		if x.N > 0 && (best.Order == nil || slices.Max(days) < slices.Max(best.Days)) {
			best = api.Schedule{Order: l, Days: days}
		}
	}
	return best
}
