package pigment

import (
	"slices"

	"giornata/api"
)

// Limits of the numbers of a plane.
const (
	maxPlaneN = 1000000000000
	maxPlaneC = 10000000000000000
)

// maxNearest is how many tints are enough to mix the shade that is nearest to one that no recipe gives.
const maxNearest = 3

// Plane returns a plane that has all tints on one side, and a shade on the other one.
func Plane(t []api.Tint, want [3]int) (api.Plane, bool, api.Errno) {
	if e := checkWanted(t, want); e != api.OK {
		return api.Plane{}, false, e
	}
	// The plane that is upright on the way from the nearest shade to the wanted one is one of these.
	for size := 1; size <= maxNearest; size++ {
		for places := range choices(len(t), size) {
			p := planeOf(t, upright(t, places, want))
			if isBetween(t, want, p) {
				return p, true, api.OK
			}
		}
	}
	return api.Plane{}, false, api.OK
}

// CheckPlane reports whether a plane has all tints on one side, and a shade on the other one.
func CheckPlane(t []api.Tint, want [3]int, p api.Plane) bool {
	return checkWanted(t, want) == api.OK && isBetween(t, want, p)
}

func isBetween(t []api.Tint, want vector, p api.Plane) bool {
	if slices.ContainsFunc(p.N[:], func(n int) bool { return n < -maxPlaneN || n > maxPlaneN }) {
		return false
	}
	if p.C < -maxPlaneC || p.C > maxPlaneC {
		return false
	}
	normal := vector(p.N)
	isBeyond := func(x api.Tint) bool { return normal.dot(x.Shade) > p.C }
	return !slices.ContainsFunc(t, isBeyond) && normal.dot(want) > p.C
}

// planeOf returns the plane in a direction that touches the tints.
func planeOf(t []api.Tint, normal vector) api.Plane {
	p := api.Plane{N: normal, C: normal.dot(t[0].Shade)}
	for _, x := range t {
		p.C = max(p.C, normal.dot(x.Shade))
	}
	return p
}

// upright returns a vector toward a shade that is upright on the line or plane of up to three tints.
func upright(t []api.Tint, places []int, want vector) vector {
	first := vector(t[places[0]].Shade)
	way := want.minus(first)
	if len(places) == 1 {
		return way
	}
	second := vector(t[places[1]].Shade).minus(first)
	if len(places) == 2 {
		return second.cross(way.cross(second))
	}
	normal := second.cross(vector(t[places[2]].Shade).minus(first))
	return normal.times(sign(normal.dot(way)))
}
