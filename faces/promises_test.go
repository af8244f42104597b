package faces_test

import (
	"slices"
	"testing"

	"giornata/api"
	"giornata/faces"
	"giornata/plane"
)

// drawings returns random walls with lines on them that Build accepts.
func drawings(seed uint64, count int, use func(wall []api.Point, m api.Map)) {
	d := &dice{seed}
	for range count {
		size := 4 + d.roll(4)
		wall := d.polygon(size, 3+d.roll(9))
		var lines []api.Seg
		m, _ := faces.Build(wall, nil)
		for range 5 + d.roll(25) {
			next := append(slices.Clone(lines), d.seg(size))
			if more, e := faces.Build(wall, next); e == api.OK {
				m, lines = more, next
			}
		}
		use(wall, m)
	}
}

// P2.2: the areas of the faces add up to that of the wall.
func TestAreasOfWalls(t *testing.T) {
	drawings(45, 100, func(wall []api.Point, m api.Map) {
		sum := 0
		for face := 1; face <= m.Faces; face++ {
			area, e := faces.Area2(m, face)
			sum += area
			if e != api.OK || area <= 0 {
				t.Fatalf("the face %d of %v: area %d, error %d", face, m, area, e)
			}
		}
		outside, _ := faces.Area2(m, 0)
		whole := plane.Area2(wall)
		want(t, "the area of the wall", sum, max(whole, -whole))
		want(t, "the area of the outside", outside, -sum)
	})
}

// P2.3: a point is on some edge, or in exactly one face; in the face 0 exactly if it is outside the wall.
func TestPlacesOfWalls(t *testing.T) {
	drawings(46, 60, func(wall []api.Point, m api.Map) {
		for _, p := range gridPoints(9) {
			on, _ := faces.On(m, p)
			face, e := faces.At(m, p)
			if (e == api.ErrEdge) != (len(on) > 0) || e != api.OK && e != api.ErrEdge {
				t.Fatalf("At(%v) of %v: error %d, edges %v", p, m, e, on)
			}
			where := plane.Where(wall, p)
			if (e == api.OK && face == 0) != (where == api.WhereOut) {
				t.Fatalf("At(%v) of %v: %d, error %d; Where of %v: %d", p, m, face, e, wall, where)
			}
		}
	})
}

// P2.4: points less edges plus faces is 1, and walks have each dart exactly once.
func TestEuler(t *testing.T) {
	for _, m := range maps(47, 100) {
		want(t, "points - edges + faces", len(m.Points)-len(m.Edges)+m.Faces, 1)
		ways := map[[2]int]int{}
		for face := range m.Faces + 1 {
			walk, _ := faces.Walk(m, face)
			for i, from := range walk {
				ways[[2]int{from, walk[(i+1)%len(walk)]}]++
			}
		}
		if len(ways) != 2*len(m.Edges) {
			t.Fatalf("%d darts in the walks of %v", len(ways), m)
		}
		for _, e := range m.Edges {
			if ways[[2]int{e.A, e.B}] != 1 || ways[[2]int{e.B, e.A}] != 1 {
				t.Fatalf("the edge %v in the walks of %v", e, m)
			}
		}
	}
}

// P2.4: going on from each dart to its next one passes each dart exactly once.
func TestNextPassesAll(t *testing.T) {
	for _, m := range maps(48, 30) {
		passed := map[int]bool{}
		for dart := range 2 * len(m.Edges) {
			next, e := faces.Next(m, dart)
			if e != api.OK || passed[next] {
				t.Fatalf("Next(%d) of %v: %d again, error %d", dart, m, next, e)
			}
			passed[next] = true
		}
	}
}

// P2.8: each two neighbours of a way are neighbours, and none of the faces between is 0.
func TestStepsOfWays(t *testing.T) {
	for _, m := range maps(49, 40) {
		for a := range m.Faces + 1 {
			for b := range m.Faces + 1 {
				way, e := faces.Way(m, a, b)
				if e != api.OK {
					continue
				}
				if way[0] != a || way[len(way)-1] != b || len(way) > 2 && slices.Contains(way[1:len(way)-1], 0) {
					t.Fatalf("Way(%d, %d) of %v: %v", a, b, m, way)
				}
				for i := 1; i < len(way); i++ {
					if beside, _ := faces.Neighbours(m, way[i-1]); !slices.Contains(beside, way[i]) {
						t.Fatalf("Way(%d, %d) of %v: %v", a, b, m, way)
					}
				}
			}
		}
	}
}
