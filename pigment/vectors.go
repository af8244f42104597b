package pigment

// vector is a shade, or a direction in the space of the shades.
type vector [3]int

func (v vector) plus(w vector) vector { return vector{v[0] + w[0], v[1] + w[1], v[2] + w[2]} }

func (v vector) minus(w vector) vector { return v.plus(w.times(-1)) }

func (v vector) times(n int) vector { return vector{n * v[0], n * v[1], n * v[2]} }

func (v vector) dot(w vector) int { return v[0]*w[0] + v[1]*w[1] + v[2]*w[2] }

// cross returns a vector that is upright on two others, and zero if they have one direction.
func (v vector) cross(w vector) vector {
	return vector{v[1]*w[2] - v[2]*w[1], v[2]*w[0] - v[0]*w[2], v[0]*w[1] - v[1]*w[0]}
}
