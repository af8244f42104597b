package crew

import (
	"slices"

	"giornata/api"
	"giornata/pigment"
)

// duty is a colour that is to be laid on a task.
type duty struct {
	task   int
	colour string
}

// Strokes returns when the colours of each task are laid.
func Strokes(y api.Yard, b api.Book, l []api.Task, p api.Plan) ([]api.Stroke, api.Errno) {
	c, e := openStrokes(y, b, l, p)
	if e != api.OK {
		return nil, e
	}
	var out []api.Stroke
	for task, x := range p.Turns {
		strokes, e := c.strokes(b, task, x.Day)
		if e != api.OK {
			return nil, e
		}
		out = append(out, strokes...)
	}
	return out, api.OK
}

// CheckStrokes returns whether strokes are a way to lay the colours of all tasks.
func CheckStrokes(y api.Yard, b api.Book, l []api.Task, p api.Plan, strokes []api.Stroke) (bool, api.Errno) {
	c, e := openStrokes(y, b, l, p)
	if e != api.OK {
		return false, e
	}
	left := c.duties()
	for _, x := range strokes {
		at := duty{x.Task, x.Colour}
		if left[at] == 0 || !c.mayLay(b, x, p.Turns[x.Task].Day) {
			return false, api.OK
		}
		left[at]--
		if left[at] == 0 {
			delete(left, at)
		}
	}
	return len(left) == 0, api.OK
}

// openStrokes returns the calendar of a yard and tasks, if a book is valid and a plan has a day for each task.
func openStrokes(y api.Yard, b api.Book, l []api.Task, p api.Plan) (calendar, api.Errno) {
	c, e := open(y, l)
	if e != api.OK {
		return calendar{}, e
	}
	if _, e := pigment.Check(b); e != api.OK {
		return calendar{}, e
	}
	if len(p.Turns) != len(l) || slices.ContainsFunc(p.Turns, func(x api.Turn) bool { return !isDay(x.Day) }) {
		return calendar{}, api.ErrArg
	}
	return c, api.OK
}

// strokes returns when the colours of a task are laid whose plaster is laid on a day.
func (c calendar) strokes(b api.Book, task, day int) ([]api.Stroke, api.Errno) {
	fresh, dry, e := pigment.Strokes(b, day, c.tasks[task].Colours)
	if e != api.OK {
		return nil, e
	}
	var out []api.Stroke
	for _, colour := range fresh {
		out = append(out, api.Stroke{Task: task, Colour: colour, Day: day, Wet: true})
	}
	if len(dry) == 0 {
		return out, api.OK
	}
	late, is := first(span([]func(day int) bool{c.isOpen}, day+c.Dry+1, endOfDays))
	if !is {
		return nil, api.ErrSpan
	}
	for _, colour := range dry {
		out = append(out, api.Stroke{Task: task, Colour: colour, Day: late})
	}
	return out, api.OK
}

// duties returns how often each colour is to be laid on each task.
func (c calendar) duties() map[duty]int {
	out := map[duty]int{}
	for task, x := range c.tasks {
		for _, colour := range x.Colours {
			out[duty{task, colour}]++
		}
	}
	return out
}

// mayLay reports whether a stroke may be laid on a task whose plaster is laid on a day.
func (c calendar) mayLay(b api.Book, x api.Stroke, day int) bool {
	state := pigment.State(b, day, x.Colour)
	if x.Wet {
		return state == api.PigFresh && x.Day == day
	}
	return state == api.PigDry && x.Day > day+c.Dry && c.isOpen(x.Day)
}
