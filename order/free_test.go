package order_test

import (
	"slices"
	"testing"

	"giornata/api"
	"giornata/order"
)

// E10: the first of the greatest sets of free patches.
func TestFree(t *testing.T) {
	for _, x := range []struct {
		name string
		o    api.Order
		want []int
		e    api.Errno
	}{
		{"the chapter's", chapterOrder(), p(1, 2), api.OK},
		{"no patches", api.Order{}, nil, api.OK},
		{"24 patches without arcs", problem(24, nil, nil), patches(24), api.OK},
		{"a row of 24 patches", row(24), p(0), api.OK},
		{"the first of several", problem(4, pairs(0, 1, 2, 3), nil), p(0, 2), api.OK},
		{"more than the first patch leaves", problem(4, pairs(0, 1, 0, 2, 0, 3), nil), p(1, 2, 3), api.OK},
		{"connected by a longer chain", problem(3, pairs(0, 2, 2, 1), nil), p(0), api.OK},
		{"neighbours", problem(2, nil, pairs(0, 1)), p(0, 1), api.OK},
		{"a circle", chapterCircle(), nil, api.ErrCircle},
		{"25 patches", problem(25, nil, nil), nil, api.ErrLimit},
	} {
		wants(t, x.name, of(order.Free(x.o)), x.want, x.e)
	}
	for _, x := range models(71, 300, 6) {
		if len(x.circles) > 0 {
			wants(t, "Free with a circle", of(order.Free(x.Order)), nil, api.ErrCircle)
		} else {
			wants(t, "Free", of(order.Free(x.Order)), x.free(), api.OK)
		}
	}
}

// areChains reports whether lists have each patch once, and chains between them.
func (x model) areChains(chains [][]int) bool {
	all := slices.Concat(chains...)
	slices.Sort(all)
	return same(all, patches(x.N)) && !slices.ContainsFunc(chains, func(l []int) bool { return len(l) == 0 || !x.isChain(l) })
}

// E10: the fewest lists of chains, ordered by their first patches.
func TestChains(t *testing.T) {
	wants(t, "no patches", of(order.Chains(api.Order{})), nil, api.OK)
	wants(t, "no arcs", of(order.Chains(problem(3, nil, nil))), [][]int{p(0), p(1), p(2)}, api.OK)
	wants(t, "a row of 24 patches", of(order.Chains(row(24))), [][]int{patches(24)}, api.OK)
	wants(t, "lists that begin with greater patches", of(order.Chains(problem(4, pairs(2, 1, 3, 0), nil))), [][]int{p(2, 1), p(3, 0)}, api.OK)
	wants(t, "a circle", of(order.Chains(chapterCircle())), nil, api.ErrCircle)
	wants(t, "25 patches", of(order.Chains(problem(25, nil, nil))), nil, api.ErrLimit)
	over := modelOf(problem(5, pairs(0, 2, 1, 2, 2, 3, 2, 4), nil))
	chains := must(t, "Chains", of(order.Chains(over.Order)))
	want(t, "a list over a patch of another one", len(chains) == 2 && over.areChains(chains), true)
	for _, x := range models(72, 150, 5) {
		if len(x.circles) > 0 {
			wants(t, "Chains with a circle", of(order.Chains(x.Order)), nil, api.ErrCircle)
			continue
		}
		chains := must(t, "Chains", of(order.Chains(x.Order)))
		if !x.areChains(chains) || len(chains) != x.fewest(patches(x.N)) {
			t.Errorf("Chains of %v: %v", x.Order, chains)
		}
		want(t, "sorted", slices.IsSortedFunc(chains, func(l, m []int) int { return l[0] - m[0] }), true)
	}
}

// E11: free patches and chains that show each other to be right.
func TestCheckFree(t *testing.T) {
	o := chapterOrder()
	for _, x := range []struct {
		name   string
		o      api.Order
		free   []int
		chains [][]int
		want   bool
	}{
		{"as they are", o, p(1, 2), [][]int{p(0, 1, 3), p(2)}, true},
		{"chains in another order", o, p(1, 2), [][]int{p(2), p(0, 1, 3)}, true},
		{"other chains", o, p(1, 2), [][]int{p(0, 2), p(1, 3)}, true},
		{"other free patches", o, p(2, 3), [][]int{p(0, 2), p(1, 3)}, true},
		{"a chain over a patch", o, p(1, 2), [][]int{p(0, 3), p(1), p(2)}, false},
		{"a chain that leaves a patch out", o, p(1, 2), [][]int{p(0, 3), p(2)}, false},
		{"a patch in two chains", o, p(1, 2), [][]int{p(0, 1, 3), p(0, 2)}, false},
		{"a patch twice in a chain", o, p(1, 2), [][]int{p(0, 1, 1, 3), p(2)}, false},
		{"no chain between two patches", o, p(1, 2), [][]int{p(0, 1, 2), p(3)}, false},
		{"a chain that leads back", o, p(1, 2), [][]int{p(0, 3, 1), p(2)}, false},
		{"an empty chain", o, p(1, 2), [][]int{p(0, 1, 3, 2), p()}, false},
		{"an empty chain too many", o, p(1, 2), [][]int{p(0, 1, 3), p(2), nil}, false},
		{"an empty chain beside all of a row", row(3), p(0, 1), [][]int{p(0, 1, 2), nil}, false},
		{"fewer chains", o, p(1, 2), [][]int{p(0, 1, 3)}, false},
		{"more chains", o, p(1, 2), [][]int{p(0), p(1, 3), p(2)}, false},
		{"as many chains as free patches, but connected ones", o, p(0, 1, 2), [][]int{p(0), p(1, 3), p(2)}, false},
		{"free patches that descend", o, p(2, 1), [][]int{p(0, 1, 3), p(2)}, false},
		{"a free patch twice", o, p(1, 1), [][]int{p(0, 1, 3), p(2)}, false},
		{"connected by a chain of three", o, p(0, 3), [][]int{p(0, 1, 3), p(2)}, false},
		{"a free patch that is none", o, p(1, 4), [][]int{p(0, 1, 3), p(2)}, false},
		{"a free patch below 0", o, p(-1, 2), [][]int{p(0, 1, 3), p(2)}, false},
		{"a chain with a patch that is none", o, p(1, 2), [][]int{p(0, 1, 3), p(2, 4)}, false},
		{"any numbers", o, p(tiny, huge), [][]int{p(0, 1, huge), p(tiny)}, false},
		{"nothing", o, nil, nil, false},
		{"no patches", api.Order{}, nil, nil, true},
		{"no patches, but an empty chain", api.Order{}, nil, [][]int{nil}, false},
		{"a circle", problem(2, pairs(0, 1, 1, 0), nil), p(0), [][]int{p(0, 1)}, false},
		{"a wrong problem", problem(2, pairs(0, 1, 0, 1), nil), p(0), [][]int{p(0, 1)}, false},
		{"24 patches", row(24), p(23), [][]int{patches(24)}, true},
	} {
		want(t, x.name, order.CheckFree(x.o, x.free, x.chains), x.want)
	}
}

// E11: CheckFree by the words of the chapter, with any lists.
func TestCheckFreeAny(t *testing.T) {
	d := &dice{73}
	for _, x := range models(74, 300, 4) {
		free := d.shuffled(x.N)[:d.roll(x.N+1)]
		if d.roll(3) > 0 {
			slices.Sort(free)
		}
		var chains [][]int
		for _, a := range d.shuffled(x.N) {
			i := d.roll(len(chains) + 1)
			if i == len(chains) {
				chains = append(chains, nil)
			}
			chains[i] = append(chains[i], a)
		}
		right := len(x.circles) == 0 && slices.IsSorted(free) && x.isFree(free) && x.areChains(chains) && len(free) == len(chains)
		want(t, "CheckFree", order.CheckFree(x.Order, free, chains), right)
	}
}
