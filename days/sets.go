package days

import (
	"iter"
	"math/bits"
	"slices"
)

// set is a set of cells: the bit i is 1 if it contains the cell i.
type set uint32

// single returns the set of one cell.
func single(cell int) set { return 1 << cell }

// firstCells returns the set of the cells below n.
func firstCells(n int) set { return single(n) - 1 }

func (s set) has(cell int) bool { return s&single(cell) != 0 }

func (s set) without(t set) set { return s &^ t }

func (s set) isPartOf(t set) bool { return s.without(t) == 0 }

func (s set) size() int { return bits.OnesCount32(uint32(s)) }

// least returns the least cell of a set that is not empty.
func (s set) least() int { return bits.TrailingZeros32(uint32(s)) }

// cells yields the cells in ascending order.
func (s set) cells() iter.Seq[int] {
	return func(yield func(int) bool) {
		for rest := s; rest != 0; rest &= rest - 1 {
			if !yield(rest.least()) {
				return
			}
		}
	}
}

func (s set) list() []int { return slices.Collect(s.cells()) }

// compareLists compares two sets as ascending lists, where a list comes before its continuations.
func compareLists(s, t set) int { return slices.Compare(s.list(), t.list()) }

// remembered returns a function that finds the value of each set once; find may ask it for the values of smaller sets.
func remembered[V any](find func(s set, of func(set) V) V) func(set) V {
	known := map[set]V{}
	var of func(set) V
	of = func(s set) V {
		v, is := known[s]
		if !is {
			v = find(s, of)
			known[s] = v
		}
		return v
	}
	return of
}
