package order

import "giornata/api"

// links has a set of patches for each patch.
type links [api.MaxCells]set

// graph is a valid order problem, with the patches that arcs and chains lead to, those that arcs come from, and the neighbours.
type graph struct {
	api.Order
	after, reach, before, near links
}

// open returns the graph of an order problem.
func open(o api.Order) (graph, api.Errno) {
	if e := Check(o); e != api.OK {
		return graph{}, e
	}
	g := graph{Order: o}
	for _, x := range o.Arcs {
		g.after[x.A] |= single(x.B)
		g.before[x.B] |= single(x.A)
	}
	for _, x := range o.Near {
		g.near[x.A] |= single(x.B)
		g.near[x.B] |= single(x.A)
	}
	g.reach = g.after.chained(o.N)
	return g, api.OK
}

// openOrdered returns the graph of an order problem without circles.
func openOrdered(o api.Order) (graph, api.Errno) {
	g, e := open(o)
	if e != api.OK {
		return graph{}, e
	}
	return g, g.checkOrdered()
}

// openFew returns the graph of an order problem with so few patches that its orders can be counted.
func openFew(o api.Order) (graph, api.Errno) {
	g, e := open(o)
	if e != api.OK {
		return graph{}, e
	}
	if o.N > api.MaxCount {
		return graph{}, api.ErrLimit
	}
	return g, api.OK
}

// openDry returns the graph of an order problem, for plaster that dries for a number of days.
func openDry(o api.Order, dry int) (graph, api.Errno) {
	g, e := open(o)
	if e != api.OK {
		return graph{}, e
	}
	if dry < 0 || dry > api.MaxDry {
		return graph{}, api.ErrArg
	}
	return g, api.OK
}

// openDryOrder returns the graph of an order problem, for plaster that dries and an order that has to be one.
func openDryOrder(o api.Order, dry int, l []int) (graph, api.Errno) {
	g, e := openDry(o, dry)
	if e != api.OK {
		return graph{}, e
	}
	if !g.isOrder(l) {
		return graph{}, api.ErrArg
	}
	return g, api.OK
}

// chained returns for each of n patches those that chains lead to, if a has those that arcs lead to.
func (a links) chained(n int) links {
	for middle := range n {
		for p := range n {
			if a[p].has(middle) {
				a[p] |= a[middle]
			}
		}
	}
	return a
}

// circular reports whether a chain leads from one of n patches to itself, if a has those that chains lead to.
func (a links) circular(n int) bool {
	for p := range n {
		if a[p].has(p) {
			return true
		}
	}
	return false
}

func (g graph) all() set { return firstPatches(g.N) }

func (g graph) isPatch(p int) bool { return p >= 0 && p < g.N }

// checkOrdered returns ErrCircle if there is a circle.
func (g graph) checkOrdered() api.Errno {
	if g.reach.circular(g.N) {
		return api.ErrCircle
	}
	return api.OK
}

// set returns the set of different patches of a list; false if one is no patch, or is there twice.
func (g graph) set(l []int) (set, bool) {
	var s set
	for _, p := range l {
		if !g.isPatch(p) || s.has(p) {
			return 0, false
		}
		s |= single(p)
	}
	return s, true
}
