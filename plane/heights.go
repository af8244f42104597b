package plane

import (
	"cmp"

	"giornata/api"
)

// ratio is a fraction, not always in lowest terms, whose denominator is greater than 0.
type ratio struct{ num, den int }

// height is the Y of a segment of a list at some X.
type height struct {
	ratio
	seg int
}

func (r ratio) compare(other ratio) int {
	return cmp.Compare(r.num*other.den, other.num*r.den)
}

// heightAt returns the Y of a segment that is not vertical. It takes the doubled X, because the middle of a strip may be no integer.
func heightAt(s api.Seg, doubledX int) ratio {
	s = forward(s)
	width := 2 * (s.B.X - s.A.X)
	return ratio{s.A.Y*width + (s.B.Y-s.A.Y)*(doubledX-2*s.A.X), width}
}

// heights returns the Y of segments of a list, by their indices.
func heights(l []api.Seg, segs []int, doubledX int) []height {
	out := make([]height, 0, len(segs))
	for _, i := range segs {
		out = append(out, height{heightAt(l[i], doubledX), i})
	}
	return out
}
