package order

import (
	"slices"

	"giornata/api"
)

// First returns the first order.
func First(o api.Order) ([]int, api.Errno) {
	g, e := openOrdered(o)
	if e != api.OK {
		return nil, e
	}
	return g.first(), api.OK
}

// CheckOrder returns whether a list is an order.
func CheckOrder(o api.Order, l []int) (bool, api.Errno) {
	g, e := open(o)
	return e == api.OK && g.isOrder(l), e
}

// Count returns how many orders there are.
func Count(o api.Order) (int, api.Errno) {
	g, e := openFew(o)
	if e != api.OK {
		return 0, e
	}
	return g.counter()(g.all()), api.OK
}

// Rank returns how many orders come before an order.
func Rank(o api.Order, l []int) (int, api.Errno) {
	g, e := openFew(o)
	if e != api.OK {
		return 0, e
	}
	if !g.isOrder(l) {
		return 0, api.ErrArg
	}
	count, left, rank := g.counter(), g.all(), 0
	for _, next := range l {
		for p := range (g.ready(left) & firstPatches(next)).patches() {
			rank += count(left.without(single(p)))
		}
		left = left.without(single(next))
	}
	return rank, api.OK
}

// Nth returns the order before which k others come.
func Nth(o api.Order, k int) ([]int, api.Errno) {
	g, e := openFew(o)
	if e != api.OK {
		return nil, e
	}
	count, left := g.counter(), g.all()
	if k < 0 || k >= count(left) {
		return nil, api.ErrArg
	}
	var l []int
	for left != 0 {
		for p := range g.ready(left).patches() {
			rest := left.without(single(p))
			if k < count(rest) {
				l, left = append(l, p), rest
				break
			}
			k -= count(rest)
		}
	}
	return l, api.OK
}

// isOrder reports whether a list has each patch once, after all those that have to be laid before it.
func (g graph) isOrder(l []int) bool {
	if len(l) != g.N {
		return false
	}
	var laid set
	for _, p := range l {
		if !g.isPatch(p) || laid.has(p) || !g.before[p].isPartOf(laid) {
			return false
		}
		laid |= single(p)
	}
	return true
}

// ready returns the patches that may be laid next if some are left.
func (g graph) ready(left set) set {
	var next set
	for p := range left.patches() {
		if g.before[p]&left == 0 {
			next |= single(p)
		}
	}
	return next
}

// orders yields all orders, lesser ones first; each is in the same memory, until the next one is asked for.
func (g graph) orders(yield func(l []int) bool) {
	var l []int
	var extend func(left set) bool
	extend = func(left set) bool {
		if left == 0 {
			return yield(l)
		}
		for p := range g.ready(left).patches() {
			l = append(l, p)
			if !extend(left.without(single(p))) {
				return false
			}
			l = l[:len(l)-1]
		}
		return true
	}
	extend(g.all())
}

// first returns the first order of a problem without circles.
func (g graph) first() []int {
	var first []int
	for l := range g.orders {
		first = slices.Clone(l)
		break
	}
	return first
}

// counter returns a function that counts the orders of the patches that are left, and counts those of each set once.
func (g graph) counter() func(left set) int {
	known := map[set]int{0: 1}
	var count func(left set) int
	count = func(left set) int {
		n, is := known[left]
		if is {
			return n
		}
		for p := range g.ready(left).patches() {
			n += count(left.without(single(p)))
		}
		known[left] = n
		return n
	}
	return count
}
