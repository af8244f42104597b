package reading

import (
	"slices"

	"giornata/api"
	"giornata/order"
)

// Shown returns what can be seen on a wall whose patches were laid on some days.
func Shown(o api.Order, days []int) ([]api.Observation, api.Errno) {
	kept, e := order.CheckDays(o, 0, days)
	if e != api.OK {
		return nil, e
	}
	if !kept {
		return nil, api.ErrArg
	}
	var out []api.Observation
	for i, x := range o.Near {
		below, above := x.A, x.B
		if days[below] > days[above] {
			below, above = above, below
		}
		out = append(out, api.Observation{Id: i + 1, Reader: 1, Kind: api.ObOver, A: below + 1, B: above + 1})
	}
	return out, api.OK
}

// Ranks returns the world that days make.
func Ranks(n int, days []int) ([]int, api.Errno) {
	if !isCount(n) || len(days) != n {
		return nil, api.ErrArg
	}
	return ranks(days), api.OK
}

// ranks returns for each day which one it is of the different ones, from 1 on.
func ranks(days []int) []int {
	different := slices.Compact(slices.Sorted(slices.Values(days)))
	var out []int
	for _, day := range days {
		at, _ := slices.BinarySearch(different, day)
		out = append(out, at+1)
	}
	return out
}
