package crew_test

import (
	"reflect"
	"slices"
	"strings"
	"testing"

	"giornata/api"
)

const (
	huge = int(^uint(0) >> 1)
	tiny = -huge - 1
)

// longest is a name of the greatest length.
const longest = "abcdefghijklmnopqrstuv-9"

// chapterYard returns the yard Y of the chapter.
func chapterYard() api.Yard {
	y := api.Yard{Closed: p(3), Pits: pits(0, 2, 2, 0, 5, 9), Masters: []api.Master{master("ann", 0, 100, 4)}, Dry: 1}
	y.Seasons[0] = api.Season{Light: 600, Wet: 500}
	return y
}

// chapterTasks returns the tasks L of the chapter.
func chapterTasks() []api.Task { return []api.Task{task(400, 3), task(400, 3), task(400, 3, 0, 1)} }

// brightYard returns a yard in which every day suits up to 100 tasks of up to 500 minutes.
func brightYard() api.Yard {
	y := api.Yard{Pits: pits(0, 0, 100), Masters: []api.Master{master("ann", 0, 100001, 9)}}
	for i := range y.Seasons {
		y.Seasons[i] = api.Season{Light: 600, Wet: 500}
	}
	return y
}

func p(numbers ...int) []int { return numbers }

// pits returns pits of three numbers each.
func pits(numbers ...int) []api.Lime {
	var out []api.Lime
	for i := 2; i < len(numbers); i += 3 {
		out = append(out, api.Lime{Slaked: numbers[i-2], Age: numbers[i-1], Batches: numbers[i]})
	}
	return out
}

func master(name string, from, until, skill int) api.Master {
	return api.Master{Name: name, From: from, Until: until, Skill: skill}
}

func task(work, need int, after ...int) api.Task {
	return api.Task{Work: work, Need: need, After: after}
}

// row returns n tasks that suit every day of a bright yard.
func row(n int) []api.Task {
	var out []api.Task
	for range n {
		out = append(out, task(100, 1))
	}
	return out
}

// on returns a plan of some days, with the first pit and the first master.
func on(days ...int) api.Plan {
	var out api.Plan
	for _, day := range days {
		out.Turns = append(out.Turns, api.Turn{Day: day})
	}
	return out
}

// plan returns a plan of turns of three numbers each.
func plan(numbers ...int) api.Plan {
	var out api.Plan
	for i := 2; i < len(numbers); i += 3 {
		out.Turns = append(out.Turns, api.Turn{Day: numbers[i-2], Pit: numbers[i-1], Master: numbers[i]})
	}
	return out
}

func daysOf(p api.Plan) []int {
	var out []int
	for _, x := range p.Turns {
		out = append(out, x.Day)
	}
	return out
}

// from returns n ascending numbers from one on.
func from(first, n int) []int {
	var out []int
	for i := range n {
		out = append(out, first+i)
	}
	return out
}

// copyOf returns a yard that shares no memory with another one.
func copyOf(y api.Yard) api.Yard {
	y.Closed, y.Pits, y.Masters = slices.Clone(y.Closed), slices.Clone(y.Pits), slices.Clone(y.Masters)
	return y
}

// same compares results; nil and empty slices are equal, also within structs and lists.
func same(a, b any) bool { return alike(reflect.ValueOf(a), reflect.ValueOf(b)) }

func alike(a, b reflect.Value) bool {
	if !a.IsValid() || !b.IsValid() {
		return blank(a) && blank(b)
	}
	if a.Type() != b.Type() {
		return false
	}
	switch a.Kind() {
	case reflect.Interface:
		return alike(a.Elem(), b.Elem())
	case reflect.Slice:
		if a.Len() != b.Len() {
			return false
		}
		for i := range a.Len() {
			if !alike(a.Index(i), b.Index(i)) {
				return false
			}
		}
		return true
	case reflect.Struct:
		for i := range a.NumField() {
			if !alike(a.Field(i), b.Field(i)) {
				return false
			}
		}
		return true
	}
	return a.Equal(b)
}

// blank reports whether a value is nothing, or an empty slice, which are equivalent.
func blank(v reflect.Value) bool { return !v.IsValid() || v.Kind() == reflect.Slice && v.Len() == 0 }

// isZero reports whether a value is zero, where empty slices are nil, also within structs.
func isZero(v any) bool { return same(v, reflect.Zero(reflect.TypeOf(v)).Interface()) }

func want(t *testing.T, name string, got, wanted any) {
	t.Helper()
	if !same(got, wanted) {
		t.Errorf("%s: %v, want %v", name, got, wanted)
	}
}

// results are what a call returned.
type results []any

func of(values ...any) results { return values }

// wants compares all results of a call.
func wants(t *testing.T, name string, got results, wanted ...any) {
	t.Helper()
	for i := range wanted {
		if len(got) != len(wanted) || !same(got[i], wanted[i]) {
			t.Errorf("%s: %v, want %v", name, got, wanted)
			return
		}
	}
}

// dice yields numbers that are the same in every run.
type dice struct{ state uint64 }

func (d *dice) roll(n int) int {
	d.state = d.state*6364136223846793005 + 1442695040888963407
	return int((d.state >> 33) % uint64(n))
}

// offsets are days at which the days of dice begin: the first ones, some about the ends of a season and of a year, and the last ones.
var offsets = []int{0, 0, 22, 350, 99982}

// yard returns a valid yard in which masters are there on few days from one on.
func (d *dice) yard(begin int) api.Yard {
	y := api.Yard{Dry: d.roll(4)}
	for i := range y.Seasons {
		y.Seasons[i] = api.Season{Light: 200 + d.roll(4)*100, Wet: 200 + d.roll(4)*100}
	}
	for day := begin; day < begin+18; day++ {
		if d.roll(7) == 0 {
			y.Closed = append(y.Closed, day)
		}
	}
	for range 1 + d.roll(3) {
		aged := min(begin+d.roll(9), 100000)
		age := d.roll(min(aged, 10000) + 1)
		y.Pits = append(y.Pits, api.Lime{Slaked: aged - age, Age: age, Batches: 1 + d.roll(4)})
	}
	for i := range 1 + d.roll(3) {
		day := begin + d.roll(9)
		y.Masters = append(y.Masters, master(strings.Repeat("m", i+1), day, min(day+1+d.roll(12), 100001), 1+d.roll(5)))
	}
	return y
}

// tasks returns n valid tasks, of which some can be done on many days of a yard of the dice.
func (d *dice) tasks(n int) []api.Task {
	var out []api.Task
	for i := range n {
		x := task(150+d.roll(3)*100, 1+d.roll(3))
		for before := range i {
			if d.roll(3) == 0 {
				x.After = append(x.After, before)
			}
		}
		out = append(out, x)
	}
	return out
}

// sketch returns a plan of ascending days from about one on, of any pits and masters.
func (d *dice) sketch(begin, n int) api.Plan {
	var out api.Plan
	for range n {
		begin += 1 + d.roll(3)
		out.Turns = append(out.Turns, api.Turn{Day: begin, Pit: d.roll(5) - 1, Master: d.roll(5) - 1})
	}
	return out
}
