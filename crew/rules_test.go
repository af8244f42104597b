package crew_test

import (
	"cmp"
	"slices"
	"strings"
	"testing"

	"giornata/api"
	"giornata/crew"
)

// given are arguments of all functions.
type given struct {
	y                      api.Yard
	l                      []api.Task
	task, day, until, need int
	p, old                 api.Plan
	done                   int
	bounds, order          []int
	s                      api.Sheet
	d                      api.Division
	b                      api.Book
	strokes                []api.Stroke
	text                   string
}

// call is a function with some of the arguments, which spoils the memory of what it gets, and returns it spelt out. The error, if there is one, is the last result.
type call struct {
	name           string
	yarded, tasked bool
	of             func(x given) results
}

// spoil returns a copy of a list, of which it spoils the memory.
func spoil[T any](l []T, with T) []T {
	out := slices.Clone(l)
	l = l[:cap(l)]
	for i := range l {
		l[i] = with
	}
	return out
}

func spoilPlan(p api.Plan) api.Plan {
	return api.Plan{Turns: spoil(p.Turns, api.Turn{Day: 99, Pit: 99, Master: 99})}
}

func spoilYard(y api.Yard) api.Yard {
	y.Closed, y.Pits, y.Masters = spoil(y.Closed, 99), spoil(y.Pits, api.Lime{Age: 99}), spoil(y.Masters, master("spoilt", 0, 0, 0))
	return y
}

func spoilTasks(l []api.Task) []api.Task {
	var out []api.Task
	for _, x := range l {
		x.After, x.Colours = spoil(x.After, 99), spoil(x.Colours, "spoilt")
		out = append(out, x)
	}
	spoil(l, api.Task{Work: 99})
	return out
}

// calls are all functions.
var calls = []call{
	{"CheckYard", true, false, func(x given) results { return of(crew.CheckYard(x.y)) }},
	{"CheckTasks", false, true, func(x given) results { return of(crew.CheckTasks(x.l)) }},
	{"SeasonOf", true, false, func(x given) results { return of(crew.SeasonOf(x.y, x.day)) }},
	{"Open", true, false, func(x given) results { return of(crew.Open(x.y, x.day)) }},
	{"Minutes", true, false, func(x given) results { return of(crew.Minutes(x.y, x.day)) }},
	{"Batches", true, false, func(x given) results { return of(crew.Batches(x.y, x.day)) }},
	{"Skilled", true, false, func(x given) results { return of(spoil(crew.Skilled(x.y, x.day, x.need), 99)) }},
	{"Fits", true, true, func(x given) results { return of(crew.Fits(x.y, x.l, x.task, x.day)) }},
	{"Days", true, true, func(x given) results {
		l, e := crew.Days(x.y, x.l, x.task, x.day, x.until)
		return of(spoil(l, 99), e)
	}},
	{"Earliest", true, true, func(x given) results { p, e := crew.Earliest(x.y, x.l, x.day); return of(spoilPlan(p), e) }},
	{"CheckPlan", true, true, func(x given) results { return of(crew.CheckPlan(x.y, x.l, x.day, x.p)) }},
	{"End", false, false, func(x given) results { return of(crew.End(x.p)) }},
	{"Bounds", true, true, func(x given) results { l, e := crew.Bounds(x.y, x.l, x.day); return of(spoil(l, 99), e) }},
	{"CheckBounds", true, true, func(x given) results { return of(crew.CheckBounds(x.y, x.l, x.day, x.bounds)) }},
	{"Slack", true, true, func(x given) results { l, e := crew.Slack(x.y, x.l, x.day); return of(spoil(l, 99), e) }},
	{"Replan", true, true, func(x given) results {
		p, e := crew.Replan(x.y, x.l, x.old, x.done, x.day)
		return of(spoilPlan(p), e)
	}},
	{"Changed", false, false, func(x given) results { return of(spoil(crew.Changed(x.old, x.p), 99)) }},
	{"Close", true, false, func(x given) results { y, e := crew.Close(x.y, x.day); return of(spoilYard(y), e) }},
	{"Tasks", false, false, func(x given) results {
		l, e := crew.Tasks(x.s, x.d, x.order, x.need)
		return of(spoilTasks(l), e)
	}},
	{"Strokes", true, true, func(x given) results {
		l, e := crew.Strokes(x.y, x.b, x.l, x.p)
		return of(spoil(l, wet(99, "spoilt", 99)), e)
	}},
	{"CheckStrokes", true, true, func(x given) results { return of(crew.CheckStrokes(x.y, x.b, x.l, x.p, x.strokes)) }},
	{"WriteYard", true, false, func(x given) results { return of(crew.WriteYard(x.y)) }},
	{"ReadYard", false, false, func(x given) results { y, e := crew.ReadYard(x.text); return of(spoilYard(y), e) }},
}

// example returns arguments for which no function has an error. Slices with room behind them would show a function that appends to its arguments.
func example() given {
	x := given{y: chapterYard(), l: chapterTasks(), task: 2, day: 2, until: 9, need: 3, done: 1, text: chapterText, s: fourCells(), b: palette()}
	x.p, x.old = plan(2, 0, 0, 4, 0, 0, 6, 1, 0), plan(1, 0, 0, 7, 0, 0, 9, 1, 0)
	x.l[0].Colours, x.l[1].Colours = slices.Grow([]string{"lime", "azurite"}, 9), slices.Grow([]string{"ochre"}, 9)
	x.l[2].After = slices.Grow(x.l[2].After, 9)
	x.strokes = slices.Grow([]api.Stroke{wet(1, "ochre", 4), wet(0, "lime", 2), late(0, "azurite", 4)}, 9)
	x.bounds, x.order = slices.Grow(p(2, 4, 5), 9), slices.Grow(p(2, 0, 1), 9)
	x.d = division(slices.Grow(p(3, 0), 9), slices.Grow(p(2), 9), slices.Grow(p(1), 9))
	x.y.Closed, x.y.Pits, x.y.Masters = slices.Grow(x.y.Closed, 9), slices.Grow(x.y.Pits, 9), slices.Grow(x.y.Masters, 9)
	x.l, x.p.Turns, x.old.Turns = slices.Grow(x.l, 9), slices.Grow(x.p.Turns, 9), slices.Grow(x.old.Turns, 9)
	x.s.Cells, x.s.Seams, x.d.Patches, x.b.Rules = slices.Grow(x.s.Cells, 9), slices.Grow(x.s.Seams, 9), slices.Grow(x.d.Patches, 9), slices.Grow(x.b.Rules, 9)
	return x
}

// untouched reports whether nothing is in the room behind a list.
func untouched[T any](l []T) bool {
	return !slices.ContainsFunc(l[len(l):cap(l)], func(x T) bool { return !isZero(x) })
}

// roomy reports whether nothing is in the room behind any list of the arguments.
func (x given) roomy() bool {
	is := untouched(x.y.Closed) && untouched(x.y.Pits) && untouched(x.y.Masters) && untouched(x.l) && untouched(x.p.Turns) && untouched(x.old.Turns) &&
		untouched(x.bounds) && untouched(x.order) && untouched(x.strokes) && untouched(x.s.Cells) && untouched(x.s.Seams) && untouched(x.d.Patches) && untouched(x.b.Rules)
	for _, l := range x.d.Patches {
		is = is && untouched(l)
	}
	for _, l := range x.l {
		is = is && untouched(l.After) && untouched(l.Colours)
	}
	return is
}

// R3 and R4: functions leave their arguments alone, results are new memory, and calls leave no trace.
func TestArgumentsStay(t *testing.T) {
	other := given{y: brightYard(), l: row(4), task: 1, day: 7, until: 70, need: 1, p: on(7, 8, 9, 10), old: on(0, 1), done: 2, bounds: p(7, 8), order: p(0), s: cells(1), d: singles(1), text: "x"}
	for _, c := range calls {
		x := example()
		first := c.of(x)
		for _, c := range calls {
			c.of(other)
		}
		want(t, c.name+" once more", c.of(x), first)
		want(t, "the arguments of "+c.name, same(x, example()), true)
		want(t, "the room behind the arguments of "+c.name, x.roomy(), true)
		if e, is := first[len(first)-1].(api.Errno); is {
			want(t, "the error of "+c.name, e, api.OK)
		}
	}
}

// R3: no two lists of a result share memory, and a yard with one more closed day shares none with the yard before.
func TestListsOfResults(t *testing.T) {
	x := example()
	l, _ := crew.Tasks(x.s, x.d, p(0, 1, 2), 1)
	wanted := spoilTasks(slices.Clone(l))
	l, _ = crew.Tasks(x.s, x.d, p(0, 1, 2), 1)
	for i := range l {
		_, _ = append(l[i].After, 99), append(l[i].Colours, "spoilt")
	}
	want(t, "tasks beside lists that grew", l, wanted)
	one, _ := crew.Close(x.y, 50)
	other, _ := crew.Close(x.y, 40)
	_, _, _ = append(one.Closed, 60), append(one.Pits, api.Lime{Age: 9}), append(one.Masters, master("z", 0, 1, 1))
	want(t, "a yard beside one that grew", other.Closed, p(3, 40))
	want(t, "the yard before", x.y, example().y)
	plan, _ := crew.Replan(x.y, x.l, x.old, 1, 5)
	plan.Turns[0].Day = 99
	want(t, "the plan before", x.old, example().old)
}

// R3: a nil slice and an empty one are equivalent, also within structs.
func TestNilAndEmpty(t *testing.T) {
	empty := given{y: api.Yard{Closed: p(), Pits: pits(), Masters: []api.Master{}}, l: []api.Task{}, p: api.Plan{Turns: []api.Turn{}}, old: api.Plan{Turns: []api.Turn{}}, bounds: p(), order: p(),
		s: api.Sheet{Cells: []api.Cell{}, Seams: []api.Seam{}}, d: division([][]int{}...), b: api.Book{Rules: []api.Rule{}}, strokes: []api.Stroke{}}
	for _, c := range calls {
		want(t, c.name+" of empty slices", c.of(empty), c.of(given{}))
		x, y := example(), example()
		for i := range x.l {
			if len(x.l[i].After) == 0 {
				x.l[i].After, y.l[i].After = nil, p()
			}
			if len(x.l[i].Colours) == 0 {
				x.l[i].Colours, y.l[i].Colours = nil, []string{}
			}
		}
		want(t, c.name+" of tasks with empty slices", c.of(y), c.of(x))
	}
}

// The common errors come first: that of CheckYard, then that of CheckTasks; and everything else is zero with them (R1, R2).
func TestCommonErrors(t *testing.T) {
	yards := []struct {
		y api.Yard
		e api.Errno
	}{{chapterYard(), api.OK}, {edited(tooMany[0]), api.ErrLimit}, {edited(unnamed[0]), api.ErrForm}, {edited(outOfRange[0]), api.ErrArg}}
	wrong := []func(x *given){
		func(*given) {},
		func(x *given) { x.day, x.task, x.need = -1, -1, 99 },
		func(x *given) { x.done, x.p, x.old = -1, on(), on(9, 9, 9) },
		func(x *given) { x.b, x.bounds, x.strokes = api.Book{Rules: make([]api.Rule, 1)}, nil, nil },
	}
	for _, c := range calls {
		for _, y := range yards {
			for _, l := range flawedTasks {
				for _, change := range wrong {
					x := example()
					change(&x)
					x.y = y.y
					e := api.OK
					if c.yarded {
						e = y.e
					}
					if c.tasked {
						x.l, e = l.l, cmp.Or(e, l.e)
					}
					if e == api.OK {
						continue
					}
					got := c.of(x)
					for _, v := range got {
						if f, is := v.(api.Errno); is {
							want(t, "the error of "+c.name+" with "+l.name, f, e)
						} else if !isZero(v) {
							t.Errorf("%s with %s: %v with an error", c.name, l.name, v)
						}
					}
				}
			}
		}
	}
}

// R1: no function panics, whatever the fields are.
func TestAnyNumbers(t *testing.T) {
	numbers := []int{tiny, tiny + 1, -1000, -1, 0, 0, 0, 1, 1, 2, 2, 3, 4, 5, 6, 8, 9, 11, 12, 13, 29, 30, 31, 100, 101, 359, 360, 400, 500, 1440, 1441, 10000, 10001, 99600, 99999, 100000, 100001, huge - 400, huge - 1, huge}
	words := []string{"", "a", "ann", "Ann", "lime", "azurite", longest, longest + "a", "\xff", "yard", "season", "closed", "pit", "master", " ", "\n", "\n\n", " 1", " 0 0", strings.Repeat("x", 3000)}
	d := &dice{18}
	n := func() int { return numbers[d.roll(len(numbers))] }
	word := func() string { return words[d.roll(len(words))] }
	for range 4000 {
		x := example()
		switch d.roll(6) {
		case 0:
			x.y.Seasons[d.roll(12)], x.y.Closed = api.Season{Light: n(), Wet: n()}, p(n(), n(), n())[:d.roll(4)]
		case 1:
			x.y.Pits, x.y.Dry = pits(n(), n(), n(), n(), n(), n()), n()
		case 2:
			x.y.Masters[0] = master(word(), n(), n(), n())
		case 3:
			x.l[d.roll(3)] = api.Task{Work: n(), Need: n(), After: p(n(), n())[:d.roll(3)], Colours: []string{word(), word()}[:d.roll(3)]}
		case 4:
			x.y, x.l = d.yard(0), d.tasks(d.roll(13))
		}
		x.task, x.day, x.until, x.need, x.done = n(), n(), n(), n(), n()
		x.p, x.old = plan(n(), n(), n(), n(), n(), n(), n(), n(), n()), plan(n(), n(), n(), n(), n(), n(), n(), n(), n())
		x.bounds, x.order = p(n(), n(), n())[:d.roll(4)], p(n(), n(), n())[:d.roll(4)]
		x.d.Patches[d.roll(3)] = p(n(), n())[:d.roll(3)]
		x.s.Cells[d.roll(4)].Work = n()
		x.b.Rules[d.roll(5)].Known = n()
		x.strokes = []api.Stroke{{Task: n(), Colour: word(), Day: n(), Wet: d.roll(2) == 0}, {Task: n(), Colour: word(), Day: n()}}[:d.roll(3)]
		x.text = word() + word() + word() + word() + word() + word()
		for _, c := range calls {
			c.of(x)
		}
	}
}
