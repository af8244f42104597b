package faces_test

import (
	"slices"
	"testing"

	"giornata/api"
	"giornata/faces"
)

// R1: no function panics, whatever the fields are.
func TestAnyNumbers(t *testing.T) {
	numbers := []int{tiny, tiny + 1, -20001, -1, 0, 1, 2, 3, 10000, 10001, 20001, huge - 1, huge}
	d := &dice{50}
	n := func() int { return numbers[d.roll(len(numbers))] }
	s := func() api.Seg { return api.Seg{A: pt(n(), n()), B: pt(n(), n())} }
	for range 3000 {
		m := chapterMap()
		if d.roll(2) == 0 {
			m = api.Map{Points: list(n(), n(), n(), n(), n(), n()), Faces: n()}
			for range d.roll(5) {
				m.Edges = append(m.Edges, api.Edge{A: n(), B: n(), Left: n(), Right: n(), Line: n()})
			}
		} else if d.roll(2) == 0 {
			m.Edges[d.roll(9)] = api.Edge{A: n(), B: n(), Left: n(), Right: n(), Line: n()}
		}
		set := []int{n(), n()}[:d.roll(3)]
		faces.Check(m)
		faces.Build(list(n(), n(), n(), n(), n(), n()), []api.Seg{s()})
		faces.Build(square, []api.Seg{s(), s()})
		faces.Next(m, n())
		faces.Walk(m, n())
		faces.Area2(m, n())
		faces.Shared(m, n(), n())
		faces.Dead(m)
		faces.Length(m, set)
		faces.Neighbours(m, n())
		faces.Touching(m)
		faces.Span(m, set)
		faces.Parts(m, set)
		faces.Border(m, set)
		faces.Outline(m, set)
		faces.At(m, pt(n(), n()))
		faces.On(m, pt(n(), n()))
		faces.Above(m, n(), n())
		faces.Column(m, n())
		faces.Way(m, n(), n())
		faces.Split(m, s(), n())
		faces.Without(m, n())
		faces.Move(m, n(), n())
		faces.Mirror(m, n())
	}
}

func spoilInts(l []int, _ api.Errno) any {
	out := slices.Clone(l)
	l = l[:cap(l)]
	for i := range l {
		l[i] = 99
	}
	return out
}

func spoilMap(m api.Map, _ api.Errno) any {
	out := cloned(m)
	for i := range m.Points {
		m.Points[i] = pt(99, 99)
	}
	for i := range m.Edges {
		m.Edges[i] = api.Edge{}
	}
	return out
}

func spoilChanged(c changed, e api.Errno) any {
	return []any{spoilMap(c.m, e), spoilInts(c.faces, e)}
}

// spoilLists also finds out whether two of the lists share memory.
func spoilLists[T any](spoilt T) func(l [][]T, _ api.Errno) any {
	return func(l [][]T, _ api.Errno) any {
		var out [][]T
		for _, x := range l {
			out = append(out, slices.Clone(x))
		}
		for i := range l {
			l[i] = append(l[i], spoilt)
		}
		for i, x := range l {
			if !same(x[:len(x)-1], out[i]) {
				return "two lists share memory"
			}
			for j := range x {
				x[j] = spoilt
			}
		}
		return out
	}
}

// calls are the functions with some arguments; each spoils what it gets, and returns it spelt out.
func calls(wall []api.Point, lines []api.Seg, m api.Map, set []int) []func() any {
	plain := func(value int, e api.Errno) any { return []int{value, int(e)} }
	return []func() any{
		func() any { return spoilMap(faces.Build(wall, lines)) },
		func() any { return faces.Check(m) },
		func() any { return plain(faces.Next(m, 3)) },
		func() any { return spoilInts(faces.Walk(m, 1)) },
		func() any { return plain(faces.Area2(m, 1)) },
		func() any { return spoilInts(faces.Shared(m, 1, 2)) },
		func() any { return spoilInts(faces.Dead(m)) },
		func() any { return plain(faces.Length(m, set)) },
		func() any { return spoilInts(faces.Neighbours(m, 1)) },
		func() any { return spoilInts(faces.Touching(m)) },
		func() any { _, high, e := faces.Span(m, set); return plain(high, e) },
		func() any { return spoilLists(99)(faces.Parts(m, set)) },
		func() any { return spoilInts(faces.Border(m, set)) },
		func() any { return spoilLists(pt(99, 99))(faces.Outline(m, set)) },
		func() any { return plain(faces.At(m, pt(1, 1))) },
		func() any { return spoilInts(faces.On(m, pt(2, 2))) },
		func() any { up, e := faces.Above(m, 1, 2); return plain(int(up), e) },
		func() any { return spoilInts(faces.Column(m, 1)) },
		func() any { return spoilInts(faces.Way(m, 1, 2)) },
		func() any { return spoilChanged(splitOf(m, sg(0, 0, 2, 2), 3)) },
		func() any { return spoilChanged(withoutOf(m, 1)) },
		func() any { return spoilMap(faces.Move(m, 0, 0)) },
		func() any { return spoilChanged(mirrorOf(m, 4)) },
	}
}

// R3 and R4: functions leave their arguments alone, results are new memory, and calls leave no trace.
func TestArgumentsStay(t *testing.T) {
	// Slices with room behind them would show a function that appends to its arguments.
	wall := slices.Grow(slices.Clone(square), 9)
	lines := slices.Grow(slices.Clone(chapterLines), 9)
	m := chapterMap()
	m.Points, m.Edges = slices.Grow(m.Points, 9), slices.Grow(m.Edges, 9)
	for _, set := range [][]int{{2, 0}, {1}, {2, 1}} {
		set = slices.Grow(set, 9)
		kept := slices.Clone(set)
		for i, call := range calls(wall, lines, m, set) {
			first := call()
			for _, other := range calls(list(0, 0, 9, 0, 0, 9), nil, bowTie(), []int{1, 2}) {
				other()
			}
			if again := call(); !same(first, again) || first == "two lists share memory" {
				t.Errorf("call %d: first %v, then %v", i, first, again)
			}
			if !slices.Equal(wall, square) || !slices.Equal(lines, chapterLines) || !sameMap(m, chapterMap()) || !slices.Equal(set, kept) {
				t.Fatalf("call %d changes an argument", i)
			}
			for _, room := range [][]api.Point{wall[len(wall):cap(wall)], m.Points[len(m.Points):cap(m.Points)]} {
				if slices.ContainsFunc(room, func(p api.Point) bool { return p != api.Point{} }) {
					t.Fatalf("call %d writes behind an argument", i)
				}
			}
		}
	}
}

// R2: with an error the other results are zero values.
func TestZeroWithErrors(t *testing.T) {
	m := chapterMap()
	for name, got := range map[string]result[bool]{
		"Next":       zeroed(faces.Next(m, 18)),
		"Walk":       zeroed(faces.Walk(m, 3)),
		"Length":     zeroed(faces.Length(m, []int{1, 9})),
		"Neighbours": zeroed(faces.Neighbours(m, 3)),
		"Span":       zeroed(spanOf(m, []int{1, 3})),
		"Parts":      zeroed(faces.Parts(m, []int{1, 3})),
		"Outline":    zeroed(faces.Outline(m, []int{1, 3})),
		"Above":      zeroed(faces.Above(m, 1, 0)),
		"Column":     zeroed(faces.Column(m, 10000)),
		"Split":      zeroed(splitOf(m, sg(4, 1, 5, 1), 3)),
		"Without":    zeroed(withoutOf(m, 200)),
		"Move":       zeroed(faces.Move(m, -1, 0)),
		"Mirror":     zeroed(mirrorOf(m, 1)),
	} {
		wants(t, name+" with an error", got, true, api.ErrArg)
	}
}

// R3: a nil slice and an empty one are equivalent, also within structs.
func TestNilAndEmpty(t *testing.T) {
	wants(t, "Build without lines", of(faces.Build(square, []api.Seg{})), built(t, square), api.OK)
	want(t, "Check of empty lists", faces.Check(api.Map{Points: []api.Point{}, Edges: []api.Edge{}}), api.ErrArg)
	m := chapterMap()
	wants(t, "Length", of(faces.Length(m, []int{})), 0, api.OK)
	wants(t, "Parts", of(faces.Parts(m, []int{})), nil, api.OK)
	wants(t, "Border", of(faces.Border(m, []int{})), nil, api.OK)
	wants(t, "Outline", of(faces.Outline(m, []int{})), nil, api.OK)
	wants(t, "Span", of(spanOf(m, []int{})), [2]int{}, api.ErrNone)
}
