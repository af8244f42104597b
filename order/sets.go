package order

import (
	"iter"
	"math/bits"
)

// set is a set of patches, or of places in a short list: the bit i is 1 if it contains i.
type set uint32

// single returns the set of one patch.
func single(p int) set { return 1 << p }

// firstPatches returns the set of the patches below n.
func firstPatches(n int) set { return single(n) - 1 }

func (s set) has(p int) bool { return s&single(p) != 0 }

func (s set) without(t set) set { return s &^ t }

func (s set) isPartOf(t set) bool { return s.without(t) == 0 }

func (s set) size() int { return bits.OnesCount32(uint32(s)) }

// least returns the least patch of a set that is not empty.
func (s set) least() int { return bits.TrailingZeros32(uint32(s)) }

// patches yields the patches in ascending order.
func (s set) patches() iter.Seq[int] {
	return func(yield func(int) bool) {
		for rest := s; rest != 0; rest &= rest - 1 {
			if !yield(rest.least()) {
				return
			}
		}
	}
}
