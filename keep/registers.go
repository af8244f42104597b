package keep

import "giornata/api"

// record has the acts of each office in the order of their Numbers, which are 1, 2, 3 and so on.
type record [api.MaxOffices][]api.Act

// Check returns ErrArg for a list that is no register.
func Check(l []api.Act) api.Errno {
	_, e := recordOf(l)
	return e
}

// Count returns for each office how many acts of it a list has.
func Count(l []api.Act) api.Stock {
	var s api.Stock
	for _, x := range l {
		if isOffice(x.Office) {
			s.Have[x.Office]++
		}
	}
	return s
}

// Merge returns the register with the acts of two registers.
func Merge(a, b []api.Act) ([]api.Act, api.Errno) {
	r, e := recordOf(a)
	if e != api.OK {
		return nil, e
	}
	if e := Check(b); e != api.OK {
		return nil, e
	}
	for _, x := range b {
		if r.denies(x) {
			return nil, api.ErrState
		}
	}
	return copiesOf(merged(a, b, compareByDay), isAny), api.OK
}

// Missing returns the first acts of a register that a stock does not have.
func Missing(l []api.Act, s api.Stock) ([]api.Act, api.Errno) {
	r, e := recordOf(l)
	if e != api.OK {
		return nil, e
	}
	if !isStock(s) {
		return nil, api.ErrArg
	}
	return copiesOf(r.missing(s), isAny), api.OK
}

// Before returns the acts of a list up to a day.
func Before(l []api.Act, day int) []api.Act {
	return copiesOf(l, func(x api.Act) bool { return x.Day <= day })
}

// By returns the acts of an office.
func By(l []api.Act, office int) []api.Act {
	return copiesOf(l, func(x api.Act) bool { return x.Office == office })
}

func isAny(api.Act) bool { return true }

func isStock(s api.Stock) bool {
	for _, n := range s.Have {
		if n < 0 || n > api.MaxActs {
			return false
		}
	}
	return true
}

// recordOf returns the record of a register; ErrArg if a list is none.
func recordOf(l []api.Act) (record, api.Errno) {
	var r record
	for i, x := range l {
		if !isValid(x) || !r.isNext(x) || i > 0 && compareByDay(l[i-1], x) >= 0 {
			return record{}, api.ErrArg
		}
		r.add(l[i : i+1])
	}
	return r, api.OK
}

// register returns the register of a record.
func (r record) register() []api.Act {
	var out []api.Act
	for _, own := range r {
		out = merged(out, own, compareByDay)
	}
	return copiesOf(out, isAny)
}

func (r record) stock() api.Stock {
	var s api.Stock
	for office, own := range r {
		s.Have[office] = len(own)
	}
	return s
}

// missing returns the acts of a letter to whoever has a valid stock.
func (r record) missing(s api.Stock) []api.Act {
	var out []api.Act
	for office, own := range r {
		for _, x := range own[min(s.Have[office], len(own)):] {
			if len(out) == api.MaxBatch {
				return out
			}
			out = append(out, x)
		}
	}
	return out
}

// isNext reports whether a valid act is the one behind the last one of its office.
func (r record) isNext(x api.Act) bool { return x.Number == len(r[x.Office])+1 }

// has reports whether there is an act with the Office and Number of a valid one.
func (r record) has(x api.Act) bool { return x.Number <= len(r[x.Office]) }

// denies reports whether there is another act with the Office and Number of a valid one.
func (r record) denies(x api.Act) bool {
	return r.has(x) && !areEqual(r[x.Office][x.Number-1], x)
}

// lastDay returns the Day of the last act of an office, 0 without one.
func (r record) lastDay(office int) int {
	own := r[office]
	if len(own) == 0 {
		return 0
	}
	return own[len(own)-1].Day
}

// news returns the acts of a letter that come next, each behind those before it; ErrState if the letter contradicts the record.
func (r record) news(l letter) ([]api.Act, api.Errno) {
	var out []api.Act
	s := r.stock()
	var days [api.MaxOffices]int
	for office := range days {
		days[office] = r.lastDay(office)
	}
	for _, x := range l {
		if r.denies(x) {
			return nil, api.ErrState
		}
		if x.Number != s.Have[x.Office]+1 {
			continue
		}
		if x.Day < days[x.Office] {
			return nil, api.ErrState
		}
		s.Have[x.Office], days[x.Office] = x.Number, x.Day
		out = append(out, x)
	}
	return out, api.OK
}

// add puts acts that come next into a record.
func (r *record) add(l []api.Act) {
	for _, x := range l {
		r[x.Office] = append(r[x.Office], x)
	}
}

// merged returns all that two lists in strictly increasing order have, in this order.
func merged[T any](a, b []T, compare func(x, y T) int) []T {
	var out []T
	for len(a) > 0 && len(b) > 0 {
		first := a[0]
		order := compare(a[0], b[0])
		if order <= 0 {
			a = a[1:]
		}
		if order >= 0 {
			first, b = b[0], b[1:]
		}
		out = append(out, first)
	}
	out = append(out, a...)
	return append(out, b...)
}
