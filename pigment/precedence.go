package pigment

import (
	"iter"
	"slices"

	"giornata/api"
)

// precedence is how many colours there are, and for each one which others it has to come before.
type precedence struct {
	count  int
	before [api.MaxColours][api.MaxColours]bool
}

// precede returns the precedence of colours on a day.
func precede(b api.Book, known int, colours []string) (precedence, api.Errno) {
	if len(colours) > api.MaxColours {
		return precedence{}, api.ErrLimit
	}
	if hasTwice(colours) {
		return precedence{}, api.ErrTwice
	}
	k, p := on(b, known), precedence{count: len(colours)}
	for i, x := range colours {
		for j, y := range colours {
			may, _ := k.mayOver(x, y)
			p.before[i][j] = !may && i != j
		}
	}
	return p, api.OK
}

// orders yields all orders that keep the precedence, first ones first; each is in the same memory, until the next one is asked for.
func (p precedence) orders(yield func(order []int) bool) {
	var order []int
	var extend func() bool
	extend = func() bool {
		if len(order) == p.count {
			return yield(order)
		}
		for i := range p.count {
			if !p.mayFollow(order, i) {
				continue
			}
			order = append(order, i)
			if !extend() {
				return false
			}
			order = order[:len(order)-1]
		}
		return true
	}
	extend()
}

// mayFollow reports whether a colour may come next: it is not there yet, and neither is one that is left and has to come before it.
func (p precedence) mayFollow(order []int, i int) bool {
	if slices.Contains(order, i) {
		return false
	}
	for j := range p.count {
		if p.before[j][i] && !slices.Contains(order, j) {
			return false
		}
	}
	return true
}

// circles yields all circles of a number of colours from the one with the least index on, first ones first; each is in the same memory, until the next one is asked for.
func (p precedence) circles(size int) iter.Seq[[]int] {
	return func(yield func(circle []int) bool) {
		var circle []int
		var extend func(last int) bool
		extend = func(last int) bool {
			if len(circle) == size {
				return !p.before[last][circle[0]] || yield(circle)
			}
			for i := circle[0] + 1; i < p.count; i++ {
				if !p.before[last][i] || slices.Contains(circle, i) {
					continue
				}
				circle = append(circle, i)
				if !extend(i) {
					return false
				}
				circle = circle[:len(circle)-1]
			}
			return true
		}
		for i := range p.count {
			circle = []int{i}
			if !extend(i) {
				return
			}
		}
	}
}
