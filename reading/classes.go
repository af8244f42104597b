package reading

import "giornata/api"

// joined has for each thing the least one of its class.
type joined [api.MaxThings + 1]int

// joinedBy returns the classes that observations of the kind ObSame make.
func joinedBy(seen []api.Observation) joined {
	var least joined
	for thing := range least {
		least[thing] = thing
	}
	for _, x := range seen {
		if x.Kind == api.ObSame {
			least.join(x.A, x.B)
		}
	}
	return least
}

// join makes one class of those of two things.
func (j *joined) join(a, b int) {
	low, high := min(j[a], j[b]), max(j[a], j[b])
	for thing, least := range j {
		if least == high {
			j[thing] = low
		}
	}
}

// classes returns the classes of n things, by their least things.
func (j joined) classes(n int) [][]int {
	var out [][]int
	var place [api.MaxThings + 1]int
	for thing := 1; thing <= n; thing++ {
		least := j[thing]
		if least == thing {
			place[thing] = len(out)
			out = append(out, nil)
		}
		out[place[least]] = append(out[place[least]], thing)
	}
	return out
}
