package pigment

import (
	"iter"

	"giornata/api"
)

// row is 1 and a shade, or 0 and a direction.
type row [4]int

// frame is four rows, first those of free tints, then directions. Each row is a sum of multiples of them in exactly one way.
type frame [4]row

func rowOf(v vector) row { return row{1, v[0], v[1], v[2]} }

// choices yields all ascending lists of a number of places below n, first ones first; each is in the same memory, until the next one is asked for.
func choices(n, size int) iter.Seq[[]int] {
	return func(yield func(places []int) bool) {
		var places []int
		var extend func(from int) bool
		extend = func(from int) bool {
			if len(places) == size {
				return yield(places)
			}
			for place := from; place < n; place++ {
				places = append(places, place)
				if !extend(place + 1) {
					return false
				}
				places = places[:len(places)-1]
			}
			return true
		}
		extend(0)
	}
}

// free yields the places of all tints that are free, fewer ones first, then first ones first, with a frame of them.
func free(t []api.Tint) iter.Seq2[[]int, frame] {
	return func(yield func(places []int, f frame) bool) {
		for size := 1; size <= api.MaxParts; size++ {
			for places := range choices(len(t), size) {
				if f, is := frameOf(t, places); is && !yield(places, f) {
					return
				}
			}
		}
	}
}

// frameOf returns a frame of some tints; false if they are not free.
func frameOf(t []api.Tint, places []int) (frame, bool) {
	var f frame
	for i, place := range places {
		f[i] = rowOf(t[place].Shade)
	}
	for directions := range choices(len(vector{}), len(f)-len(places)) {
		for i, direction := range directions {
			f[len(places)+i] = row{}
			f[len(places)+i][direction+1] = 1
		}
		if f.determinant() != 0 {
			return f, true
		}
	}
	return frame{}, false
}

func (f frame) determinant() int {
	upper := func(i, j int) int { return f[0][i]*f[1][j] - f[0][j]*f[1][i] }
	lower := func(i, j int) int { return f[2][i]*f[3][j] - f[2][j]*f[3][i] }
	return upper(0, 1)*lower(2, 3) - upper(0, 2)*lower(1, 3) + upper(0, 3)*lower(1, 2) +
		upper(1, 2)*lower(0, 3) - upper(1, 3)*lower(0, 2) + upper(2, 3)*lower(0, 1)
}

// weights returns by which multiples of its rows a frame gives a row, all of them times one number that is greater than 0.
func (f frame) weights(r row) [4]int {
	var weights [4]int
	side := sign(f.determinant())
	for i := range f {
		changed := f
		changed[i] = r
		weights[i] = side * changed.determinant()
	}
	return weights
}

// solve returns the numbers whose products with each row of a frame add up to its value, all of them times the last result, which is greater than 0.
func (f frame) solve(values [4]int) ([4]int, int) {
	var numbers [4]int
	whole := f.determinant()
	side := sign(whole)
	for column := range numbers {
		changed := f
		for i, value := range values {
			changed[i][column] = value
		}
		numbers[column] = side * changed.determinant()
	}
	return numbers, side * whole
}

func sign(n int) int {
	if n < 0 {
		return -1
	}
	return 1
}
