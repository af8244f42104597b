package pigment_test

import (
	"testing"

	"giornata/api"
	"giornata/pigment"
)

func planeOf(c int, n ...int) api.Plane { return api.Plane{N: shadeOf(n...), C: c} }

// F15: each thing that a plane has to be.
func TestCheckPlane(t *testing.T) {
	tints := chapterTints()
	up := shadeOf(0, 0, 1)
	for _, x := range []struct {
		name  string
		shade [3]int
		p     api.Plane
		is    bool
	}{
		{"the chapter's plane", up, planeOf(0, 0, 0, 1), true},
		{"a tint on the plane", shadeOf(11, 0, 0), planeOf(10, 1, 0, 0), true},
		{"a tint beyond the plane", shadeOf(11, 0, 0), planeOf(9, 1, 0, 0), false},
		{"the shade on the plane", shadeOf(11, 0, 0), planeOf(11, 1, 0, 0), false},
		{"a slant plane", shadeOf(6, 5, 0), planeOf(10, 1, 1, 0), true},
		{"a slant plane that a shade does not pass", shadeOf(5, 5, 0), planeOf(10, 1, 1, 0), false},
		{"a plane with the tints above", shadeOf(11, 0, 0), planeOf(-11, -1, 0, 0), false},
		{"no direction", up, planeOf(0, 0, 0, 0), false},
		{"no direction, below", up, planeOf(-1, 0, 0, 0), false},
		{"the greatest direction", up, planeOf(0, 0, 0, 1000000000000), true},
		{"a greater direction", up, planeOf(0, 0, 0, 1000000000001), false},
		{"a first number that is too great", up, planeOf(0, -1000000000001, 0, 1), false},
		{"a first number that is the least", up, planeOf(0, -1000000000000, 0, 1), true},
		{"a second number that is too little", up, planeOf(0, 0, -1000000000001, 1), false},
		{"a second number that is the least", up, planeOf(0, 0, -1000000000000, 1), true},
		{"numbers that overflow", up, planeOf(tiny, huge, huge, huge), false},
		{"a least C", up, planeOf(tiny, 0, 0, 1), false},
		{"a greatest C", up, planeOf(huge, 0, 0, 1), false},
	} {
		want(t, "CheckPlane of "+x.name, pigment.CheckPlane(tints, x.shade, x.p), x.is)
	}
	great := []api.Tint{tint("a", 1, 0, 0, 0)}
	top := shadeOf(1000, 1000, 1000)
	most, c := 1000000000000, 10000000000000000
	want(t, "CheckPlane with the greatest numbers", pigment.CheckPlane(great, top, planeOf(3000*most-1, most, most, most)), true)
	want(t, "CheckPlane with a greater C", pigment.CheckPlane(great, top, planeOf(3000*most, most, most, most)), false)
	far := []api.Tint{tint("a", 1, 1000, 1000, 1000)}
	want(t, "CheckPlane with the least numbers", pigment.CheckPlane(far, shadeOf(0, 0, 0), planeOf(-3000*most, -most, -most, -most)), true)
	want(t, "CheckPlane with a C that is too great", pigment.CheckPlane(great, top, planeOf(c+1, most, most, most)), false)
	want(t, "CheckPlane with a C that is too little", pigment.CheckPlane(great, top, planeOf(-c-1, 0, 0, 0)), false)
	for _, x := range tintFlaws {
		if x.e != api.OK {
			want(t, "CheckPlane of tints: "+x.name, pigment.CheckPlane(x.t, up, planeOf(-c, 0, 0, 0)), false)
		}
	}
	// Planes that all tints and these shades would be on the right sides of.
	for i, p := range []api.Plane{planeOf(0, -1, 0, 0), planeOf(1000, 0, 1, 0), planeOf(0, 0, 0, -1), planeOf(1000, 0, 0, 1), planeOf(1000, 1, 0, 0)} {
		want(t, "CheckPlane of a shade that is out of range", pigment.CheckPlane(tints, wrongShades[i], p), false)
	}
}

// F14: planes for tints in a point, on a line, in a plane and around, on all sides of them.
func TestPlane(t *testing.T) {
	point := []api.Tint{tint("a", 1, 5, 5, 5), tint("b", 2, 5, 5, 5)}
	line := append(point, tint("c", 1, 8, 8, 5), tint("d", 1, 6, 6, 5))
	flat := append(line, tint("e", 1, 5, 8, 5), tint("f", 1, 7, 7, 5))
	round := append(flat, tint("g", 1, 5, 5, 7), tint("h", 1, 6, 6, 4))
	for _, tints := range [][]api.Tint{point[:1], point, line, flat, round, chapterTints()} {
		for x := range 13 {
			for y := range 13 {
				for z := range 13 {
					shade := shadeOf(x, y, z)
					_, is, _ := pigment.Reach(tints, shade)
					p, shows, e := pigment.Plane(tints, shade)
					want(t, "the error", e, api.OK)
					if shows == is || pigment.CheckPlane(tints, shade, p) != shows || is && p != (api.Plane{}) {
						t.Errorf("Plane of %v, %v: %v, %v", tints, shade, p, shows)
					}
				}
			}
		}
	}
	for _, shade := range [][3]int{{5, 0, 0}, {2, 2, 0}, {0, 10, 0}} {
		wants(t, "Plane of a shade that is reached", of(pigment.Plane(chapterTints(), shade)), api.Plane{}, false, api.OK)
	}
}
