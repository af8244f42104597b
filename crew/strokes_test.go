package crew_test

import (
	"slices"
	"testing"

	"giornata/api"
	"giornata/crew"
	"giornata/pigment"
)

// dated returns a book of rules, each about one name, of the kind and from the day that stand beside it.
func dated(rules ...api.Rule) api.Book {
	for i := range rules {
		rules[i].Id = i + 1
	}
	return api.Book{Rules: rules}
}

func fast(known int, x string) api.Rule { return api.Rule{Known: known, Kind: api.RuleFast, X: x} }

func dry(known int, x string) api.Rule { return api.Rule{Known: known, Kind: api.RuleDry, X: x} }

// palette is a book by which lime and ochre are fresh from the first day on, azurite is dry, and umber is dry from the day 5 on, too.
func palette() api.Book {
	return dated(fast(0, "lime"), fast(0, "ochre"), dry(0, "azurite"), fast(0, "smalt"), dry(5, "umber"))
}

func wet(task int, colour string, day int) api.Stroke {
	return api.Stroke{Task: task, Colour: colour, Day: day, Wet: true}
}

func late(task int, colour string, day int) api.Stroke {
	return api.Stroke{Task: task, Colour: colour, Day: day}
}

// G12: what is laid wet, and what is laid when the plaster has dried.
func TestStrokes(t *testing.T) {
	y := chapterYard()
	for _, x := range []struct {
		name string
		l    []api.Task
		p    api.Plan
		want []api.Stroke
		e    api.Errno
	}{
		{"no tasks", nil, on(), nil, api.OK},
		{"no colours", row(2), on(2, 4), nil, api.OK},
		{"wet ones", []api.Task{coloured("ochre", "lime")}, on(2), []api.Stroke{wet(0, "ochre", 2), wet(0, "lime", 2)}, api.OK},
		{"a dry one", []api.Task{coloured("azurite")}, on(2), []api.Stroke{late(0, "azurite", 4)}, api.OK},
		{"a dry one before a closed day", []api.Task{coloured("azurite")}, on(1), []api.Stroke{late(0, "azurite", 4)}, api.OK},
		{"a dry one on a closed day", []api.Task{coloured("azurite")}, on(3), []api.Stroke{late(0, "azurite", 5)}, api.OK},
		{"both", []api.Task{coloured("azurite", "ochre", "umber", "lime")}, on(6), []api.Stroke{wet(0, "ochre", 6), wet(0, "lime", 6), late(0, "azurite", 8), late(0, "umber", 8)}, api.OK},
		{"two tasks", []api.Task{coloured("azurite", "lime"), coloured(), coloured("lime", "azurite")}, on(9, 2, 4), []api.Stroke{wet(0, "lime", 9), late(0, "azurite", 11), wet(2, "lime", 4), late(2, "azurite", 6)}, api.OK},
		{"a day without light", []api.Task{coloured("azurite", "lime")}, on(200), []api.Stroke{wet(0, "lime", 200), late(0, "azurite", 202)}, api.OK},
		{"what is not known yet", []api.Task{coloured("lime"), coloured("umber")}, on(6, 4), nil, api.ErrState},
		{"what is known on the day", []api.Task{coloured("lime"), coloured("umber")}, on(6, 5), []api.Stroke{wet(0, "lime", 6), late(1, "umber", 7)}, api.OK},
		{"what nothing is known of", []api.Task{coloured("lime", "white")}, on(6), nil, api.ErrState},
		{"a colour twice", []api.Task{coloured("lime", "lime")}, on(6), nil, api.ErrTwice},
		{"a colour that is no name", []api.Task{coloured("lime", "Lime")}, on(6), nil, api.ErrArg},
		{"nine colours", []api.Task{coloured(many(9)...)}, on(6), nil, api.ErrLimit},
		{"the last day for a dry one", []api.Task{coloured("azurite")}, on(99998), []api.Stroke{late(0, "azurite", 100000)}, api.OK},
		{"a day too late for a dry one", []api.Task{coloured("azurite")}, on(99999), nil, api.ErrSpan},
		{"the last day for a dry one, and a wet one", []api.Task{coloured("lime", "azurite")}, on(100000), nil, api.ErrSpan},
		{"the last day for a wet one", []api.Task{coloured("lime")}, on(100000), []api.Stroke{wet(0, "lime", 100000)}, api.OK},
		{"too late before what is not known", []api.Task{coloured("azurite"), coloured("white")}, on(100000, 5), nil, api.ErrSpan},
		{"what is not known before too late", []api.Task{coloured("white"), coloured("azurite")}, on(5, 100000), nil, api.ErrState},
		{"what is not known, too late", []api.Task{coloured("azurite", "white")}, on(100000), nil, api.ErrState},
		{"twice before what is no name", []api.Task{coloured("lime", "lime"), coloured("")}, on(5, 6), nil, api.ErrTwice},
	} {
		wants(t, "Strokes of "+x.name, of(crew.Strokes(y, palette(), x.l, x.p)), x.want, x.e)
	}
	y.Closed = from(99801, 200)
	wants(t, "Strokes before the last days are closed", of(crew.Strokes(y, palette(), []api.Task{coloured("azurite")}, on(99799))), nil, api.ErrSpan)
	y.Dry = 0
	wants(t, "Strokes before the last open day", of(crew.Strokes(y, palette(), []api.Task{coloured("azurite")}, on(99799))), []api.Stroke{late(0, "azurite", 99800)}, api.OK)
	y.Closed, y.Dry = from(11, 150), 30
	wants(t, "Strokes with many closed days", of(crew.Strokes(y, palette(), []api.Task{coloured("azurite")}, on(5))), []api.Stroke{late(0, "azurite", 161)}, api.OK)
}

// G12: the first errors of Strokes and CheckStrokes, in their order.
func TestStrokesErrors(t *testing.T) {
	worst := api.Book{Rules: []api.Rule{{Id: 1, Kind: api.RuleFast, X: "a"}, {Id: 1, Kind: api.RuleFast, X: "a"}}}
	for _, x := range []struct {
		name string
		y    api.Yard
		b    api.Book
		l    []api.Task
		p    api.Plan
		want api.Errno
	}{
		{"nothing wrong", chapterYard(), palette(), []api.Task{coloured("lime")}, on(5), api.OK},
		{"a yard", edited(unnamed[0]), worst, row(13), on(-1), api.ErrForm},
		{"tasks", chapterYard(), worst, row(13), on(-1), api.ErrLimit},
		{"a book", chapterYard(), worst, []api.Task{coloured("Lime")}, on(-1), api.ErrTwice},
		{"a book of a day before", chapterYard(), dated(fast(5, "a"), fast(4, "a")), nil, on(), api.ErrTime},
		{"too few turns", chapterYard(), palette(), []api.Task{coloured("lime", "lime")}, on(), api.ErrArg},
		{"too many turns", chapterYard(), palette(), []api.Task{coloured("lime", "lime")}, on(5, 6), api.ErrArg},
		{"a turn and no tasks", chapterYard(), palette(), nil, on(5), api.ErrArg},
		{"a day below 0", chapterYard(), palette(), []api.Task{coloured("lime", "lime")}, on(-1), api.ErrArg},
		{"a day behind the last one", chapterYard(), palette(), []api.Task{coloured("lime", "lime")}, on(100001), api.ErrArg},
		{"a later day behind the last one", chapterYard(), palette(), []api.Task{coloured("lime", "lime"), coloured()}, on(5, huge), api.ErrArg},
		{"the least day", chapterYard(), palette(), []api.Task{coloured("lime")}, on(tiny), api.ErrArg},
	} {
		strokes, e := crew.Strokes(x.y, x.b, x.l, x.p)
		wants(t, "Strokes with "+x.name, of(len(strokes) > 0, e), e == api.OK, x.want)
		wants(t, "CheckStrokes with "+x.name, of(crew.CheckStrokes(x.y, x.b, x.l, x.p, []api.Stroke{wet(0, "lime", 5)})), e == api.OK, x.want)
	}
}

// G12: lists that are a way to lay colours, and lists that are none.
func TestCheckStrokes(t *testing.T) {
	y := chapterYard()
	l := []api.Task{coloured("lime", "azurite"), coloured("lime", "lime", "azurite"), coloured()}
	plan := on(6, 2, 9)
	right := []api.Stroke{wet(0, "lime", 6), late(0, "azurite", 8), wet(1, "lime", 2), wet(1, "lime", 2), late(1, "azurite", 4)}
	with := func(i int, x api.Stroke) []api.Stroke {
		out := slices.Clone(right)
		out[i] = x
		return out
	}
	turned := slices.Clone(right)
	slices.Reverse(turned)
	for _, x := range []struct {
		name string
		l    []api.Stroke
		want bool
	}{
		{"right ones", right, true},
		{"right ones in another order", turned, true},
		{"a dry one much later", with(1, late(0, "azurite", 100000)), true},
		{"a dry one before tasks are done", with(4, late(1, "azurite", 5)), true},
		{"none", nil, false},
		{"one too few", right[:4], false},
		{"one too few of two that are alike", slices.Delete(slices.Clone(right), 2, 3), false},
		{"one too many", append(slices.Clone(right), wet(1, "lime", 2)), false},
		{"one too many of a task without colours", append(slices.Clone(right), wet(2, "lime", 9)), false},
		{"one twice in the place of another one", with(1, wet(0, "lime", 6)), false},
		{"another colour", with(0, wet(0, "ochre", 6)), false},
		{"another task", with(0, wet(2, "lime", 9)), false},
		{"no task", with(0, wet(3, "lime", 6)), false},
		{"a task below 0", with(0, wet(-1, "lime", 6)), false},
		{"any task", with(0, wet(huge, "lime", 6)), false},
		{"a wet one a day later", with(0, wet(0, "lime", 7)), false},
		{"a wet one a day earlier", with(0, wet(0, "lime", 5)), false},
		{"a wet one on the day of another task", with(0, wet(0, "lime", 2)), false},
		{"a fresh one that is laid dry", with(0, late(0, "lime", 8)), false},
		{"a dry one that is laid wet", with(1, wet(0, "azurite", 6)), false},
		{"a dry one too early", with(1, late(0, "azurite", 7)), false},
		{"a dry one on the same day", with(1, late(0, "azurite", 6)), false},
		{"a dry one on a closed day", with(4, late(1, "azurite", 3)), false},
		{"a dry one behind the last day", with(1, late(0, "azurite", 100001)), false},
		{"a dry one on any day", with(1, late(0, "azurite", huge)), false},
		{"a dry one on the least day", with(1, late(0, "azurite", tiny)), false},
	} {
		wants(t, "CheckStrokes of "+x.name, of(crew.CheckStrokes(y, palette(), l, plan, x.l)), x.want, api.OK)
	}
	closed := y
	closed.Closed = p(3, 8)
	wants(t, "CheckStrokes with a day that is closed", of(crew.CheckStrokes(closed, palette(), l, plan, right)), false, api.OK)
	wants(t, "CheckStrokes of no tasks", of(crew.CheckStrokes(y, palette(), nil, on(), nil)), true, api.OK)
	wants(t, "CheckStrokes of no colours", of(crew.CheckStrokes(y, palette(), row(2), on(1, 2), nil)), true, api.OK)
	wants(t, "CheckStrokes of the last day", of(crew.CheckStrokes(y, palette(), []api.Task{coloured("lime")}, on(100000), []api.Stroke{wet(0, "lime", 100000)})), true, api.OK)
}

// G12: states of colours are those of the day of their task.
func TestCheckStrokesByDays(t *testing.T) {
	y := chapterYard()
	b := dated(fast(0, "a"), dry(3, "b"), fast(5, "b"), dry(7, "a"))
	for _, x := range []struct {
		day    int
		stroke api.Stroke
		want   bool
	}{
		{6, wet(0, "a", 6), true}, {7, wet(0, "a", 7), false}, {7, late(0, "a", 9), false}, {2, late(0, "b", 6), false}, {3, late(0, "b", 6), true}, {3, late(0, "b", 50), true}, {4, late(0, "b", 6), true}, {5, late(0, "b", 7), false}, {5, wet(0, "b", 5), false}, {2, wet(0, "b", 2), false},
	} {
		l := []api.Task{coloured(x.stroke.Colour)}
		wants(t, "CheckStrokes", of(crew.CheckStrokes(y, b, l, on(x.day), []api.Stroke{x.stroke})), x.want, api.OK)
	}
	// More colours, and others, than Strokes would take: names alone have a state.
	l := []api.Task{coloured(slices.Repeat([]string{"a"}, 40)...), coloured("")}
	all := slices.Repeat([]api.Stroke{wet(0, "a", 2)}, 40)
	wants(t, "CheckStrokes of 40 colours", of(crew.CheckStrokes(y, b, l[:1], on(2), all)), true, api.OK)
	wants(t, "CheckStrokes of 39 of 40 colours", of(crew.CheckStrokes(y, b, l[:1], on(2), all[1:])), false, api.OK)
	wants(t, "CheckStrokes of what is no name", of(crew.CheckStrokes(y, b, l, on(2, 4), append(all, wet(1, "", 4)))), false, api.OK)
}

// book returns a valid book about few colours.
func (d *dice) book() api.Book {
	var b api.Book
	for known := 0; known < 20; known += d.roll(3) {
		x := api.Rule{Known: known, Kind: []uint8{api.RuleFast, api.RuleDry, api.RuleFast, api.RuleDry, api.RuleVoid}[d.roll(5)], X: []string{"a", "b", "c", "d", "e"}[d.roll(5)]}
		if x.Kind == api.RuleVoid {
			x.X, x.Of = "", 1+d.roll(len(b.Rules)+1)
		}
		x.Id = len(b.Rules) + 1
		if next, e := pigment.Append(b, x); e == api.OK {
			b = next
		}
	}
	return b
}

// motley returns tasks with different colours, of which a book may know nothing.
func (d *dice) motley(n int) []api.Task {
	l := row(n)
	for i := range l {
		for _, colour := range []string{"a", "b", "c", "d", "e"} {
			if d.roll(4) == 0 {
				l[i].Colours = slices.Insert(l[i].Colours, d.roll(len(l[i].Colours)+1), colour)
			}
		}
	}
	return l
}

// G12, P7.6 (T5): strokes by the words of the chapter; CheckStrokes accepts them, and later rules change nothing.
func TestAnyStrokes(t *testing.T) {
	d := &dice{11}
	laid, refused := 0, 0
	for range 4000 {
		y, b, l := d.yard(0), d.book(), d.motley(1+d.roll(3))
		plan := d.sketch(d.roll(20), len(l))
		var wanted []api.Stroke
		e := api.OK
		for i, x := range l {
			var dried []api.Stroke
			day := plan.Turns[i].Day + y.Dry + 1
			for slices.Contains(y.Closed, day) {
				day++
			}
			for _, colour := range x.Colours {
				switch pigment.State(b, plan.Turns[i].Day, colour) {
				case api.PigFresh:
					wanted = append(wanted, wet(i, colour, plan.Turns[i].Day))
				case api.PigDry:
					dried = append(dried, late(i, colour, day))
				default:
					e = api.ErrState
				}
			}
			wanted = append(wanted, dried...)
		}
		if e != api.OK {
			wants(t, "Strokes", of(crew.Strokes(y, b, l, plan)), nil, e)
			refused++
			continue
		}
		wants(t, "Strokes", of(crew.Strokes(y, b, l, plan)), wanted, api.OK)
		wants(t, "CheckStrokes of Strokes", of(crew.CheckStrokes(y, b, l, plan, wanted)), true, api.OK)
		before := api.Book{Rules: slices.DeleteFunc(slices.Clone(b.Rules), func(x api.Rule) bool { return x.Known > crew.End(plan) })}
		wants(t, "Strokes without later rules", of(crew.Strokes(y, before, l, plan)), wanted, api.OK)
		wants(t, "CheckStrokes without later rules", of(crew.CheckStrokes(y, before, l, plan, wanted)), true, api.OK)
		for _, x := range wanted {
			want(t, "what is laid wet is fresh", x.Wet && pigment.State(b, x.Day, x.Colour) != api.PigFresh, false)
		}
		if len(wanted) > 1 {
			laid++
		}
	}
	want(t, "many are laid, and many are not", laid > 200 && refused > 400, true)
}
