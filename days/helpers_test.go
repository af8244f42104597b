package days_test

import (
	"cmp"
	"reflect"
	"slices"
	"testing"

	"giornata/api"
	"giornata/days"
)

const (
	huge = int(^uint(0) >> 1)
	tiny = -huge - 1
)

// chapterSheet returns the sheet S of the chapter.
func chapterSheet() api.Sheet {
	return api.Sheet{
		Cells: []api.Cell{
			{Faces: []int{1}, Work: 100, Low: 0, High: 10},
			{Faces: []int{2}, Work: 200, Low: 0, High: 10},
			{Faces: []int{3}, Work: 100, Low: 10, High: 20},
			{Faces: []int{4}, Work: 300, Low: 10, High: 20},
		},
		Seams: []api.Seam{{A: 0, B: 1, Price: 5}, {A: 0, B: 2, Price: 3}, {A: 1, B: 3, Price: 4}, {A: 2, B: 3, Price: 7}},
	}
}

// chapterLimits returns the limits L of the chapter.
func chapterLimits() api.Limits { return limits(400, 0, 10, 5, 20, 0, 20) }

func limits(minutes int, stages ...int) api.Limits {
	l := api.Limits{Minutes: minutes}
	for i := 1; i < len(stages); i += 2 {
		l.Stages = append(l.Stages, api.Stage{From: stages[i-1], To: stages[i]})
	}
	return l
}

// alone returns limits that let any one cell of a sheet without heights be laid on a day, but no two.
func alone() api.Limits { return limits(1, 0, 1) }

// chain returns a sheet of n cells with the work 1, each with a seam to the next one, of the price 1.
func chain(n int) api.Sheet {
	var s api.Sheet
	for i := range n {
		s.Cells = append(s.Cells, api.Cell{Faces: []int{i + 1}, Work: 1, High: 1})
		if i > 0 {
			s.Seams = append(s.Seams, api.Seam{A: i - 1, B: i, Price: 1})
		}
	}
	return s
}

func division(patches ...[]int) api.Division { return api.Division{Patches: patches} }

func p(cells ...int) []int { return cells }

// cells returns n ascending cells from one on.
func cells(from, n int) []int {
	var out []int
	for i := range n {
		out = append(out, from+i)
	}
	return out
}

// singles returns the division of n cells into patches of one cell.
func singles(n int) api.Division {
	var d api.Division
	for i := range n {
		d.Patches = append(d.Patches, p(i))
	}
	return d
}

// same compares results; nil and empty slices are equal, also within structs and lists.
func same(a, b any) bool { return alike(reflect.ValueOf(a), reflect.ValueOf(b)) }

func alike(a, b reflect.Value) bool {
	if !a.IsValid() || !b.IsValid() {
		return blank(a) && blank(b)
	}
	if a.Type() != b.Type() {
		return false
	}
	switch a.Kind() {
	case reflect.Interface:
		return alike(a.Elem(), b.Elem())
	case reflect.Slice:
		if a.Len() != b.Len() {
			return false
		}
		for i := range a.Len() {
			if !alike(a.Index(i), b.Index(i)) {
				return false
			}
		}
		return true
	case reflect.Struct:
		for i := range a.NumField() {
			if !alike(a.Field(i), b.Field(i)) {
				return false
			}
		}
		return true
	}
	return a.Equal(b)
}

// blank reports whether a value is nothing, or an empty slice, which are equivalent.
func blank(v reflect.Value) bool { return !v.IsValid() || v.Kind() == reflect.Slice && v.Len() == 0 }

func want(t *testing.T, name string, got, wanted any) {
	t.Helper()
	if !same(got, wanted) {
		t.Errorf("%s: %v, want %v", name, got, wanted)
	}
}

// result is a value and the error that came with it.
type result[T any] struct {
	value T
	e     api.Errno
}

func of[T any](value T, e api.Errno) result[T] { return result[T]{value, e} }

// wants compares a result with an error and with a value, which is nil or the zero value for errors.
func wants[T any](t *testing.T, name string, got result[T], value T, e api.Errno) {
	t.Helper()
	if got.e != e || !same(got.value, value) {
		t.Errorf("%s: %v, error %d, want %v, %d", name, got.value, got.e, value, e)
	}
}

// judged is what Check says.
type judged struct {
	at  int
	why uint8
}

func checkOf(s api.Sheet, l api.Limits, d api.Division) result[judged] {
	at, why, e := days.Check(s, l, d)
	return result[judged]{judged{at, why}, e}
}

// found is what Least says.
type found struct {
	d api.Division
	t api.Table
}

func leastOf(s api.Sheet, l api.Limits) result[found] {
	d, t, e := days.Least(s, l)
	return result[found]{found{d, t}, e}
}

// improved is what Better says.
type improved struct {
	d  api.Division
	is bool
}

func betterOf(s api.Sheet, l api.Limits, d api.Division) result[improved] {
	out, is, e := days.Better(s, l, d)
	return result[improved]{improved{out, is}, e}
}

// dice yields numbers that are the same in every run.
type dice struct{ state uint64 }

func (d *dice) roll(n int) int {
	d.state = d.state*6364136223846793005 + 1442695040888963407
	return int((d.state >> 33) % uint64(n))
}

// sheet returns a sheet of n cells; its prices are small, so that many divisions cost the same.
func (d *dice) sheet(n int) api.Sheet {
	var s api.Sheet
	for i := range n {
		low := d.roll(30)
		s.Cells = append(s.Cells, api.Cell{Faces: []int{i + 1}, Work: 1 + d.roll(50), Low: low, High: low + 1 + d.roll(10)})
	}
	often := 1 + d.roll(4)
	for a := range n {
		for b := a + 1; b < n; b++ {
			if d.roll(4) < often {
				s.Seams = append(s.Seams, api.Seam{A: a, B: b, Price: d.roll(4), Upper: uint8(d.roll(4))})
			}
		}
	}
	return s
}

// limits returns limits of which some stage often reaches all.
func (d *dice) limits() api.Limits {
	l := api.Limits{Minutes: 30 + d.roll(120)}
	for range 1 + d.roll(4) {
		from := d.roll(30)
		l.Stages = append(l.Stages, api.Stage{From: from, To: from + 5 + d.roll(25)})
	}
	if d.roll(5) > 0 {
		l.Stages[d.roll(len(l.Stages))] = api.Stage{To: 40}
	}
	return l
}

// division returns any whole division of n cells, in any order.
func (d *dice) division(n int) api.Division {
	var out api.Division
	for _, cell := range d.shuffled(n) {
		if i := d.roll(len(out.Patches) + 1); i < len(out.Patches) {
			out.Patches[i] = append(out.Patches[i], cell)
		} else {
			out.Patches = slices.Insert(out.Patches, d.roll(len(out.Patches)+1), p(cell))
		}
	}
	return out
}

func (d *dice) shuffled(n int) []int {
	var out []int
	for i := range n {
		out = slices.Insert(out, d.roll(i+1), i)
	}
	return out
}

// model is what a wall is by the words of the chapter alone: all patches that fit, all whole divisions, and those that are right, in the order of lists.
type model struct {
	s            api.Sheet
	l            api.Limits
	fitting      [][]int
	whole, right []api.Division
}

func modelOf(s api.Sheet, l api.Limits) model {
	x := model{s: s, l: l}
	x.fitting = slices.DeleteFunc(sublists(x.cells()), func(patch []int) bool { return x.why(patch) != api.FitOk })
	for _, d := range divisions(x.cells()) {
		x.whole = append(x.whole, d)
		if x.isRight(d) {
			x.right = append(x.right, d)
		}
	}
	return x
}

// models returns models of walls of up to 6 cells.
func models(seed uint64, count int) []model {
	d := &dice{seed}
	var out []model
	for range count {
		out = append(out, modelOf(d.sheet(d.roll(7)), d.limits()))
	}
	return out
}

func (x model) cells() []int { return cells(0, len(x.s.Cells)) }

// sublists returns all parts of an ascending list, in the order of lists.
func sublists(l []int) [][]int {
	if len(l) == 0 {
		return [][]int{nil}
	}
	var with [][]int
	rest := sublists(l[1:])
	for _, part := range rest {
		with = append(with, slices.Concat(l[:1], part))
	}
	return slices.Concat([][]int{nil}, with, rest[1:])
}

// divisions returns all divisions of some cells, in normal form and in order.
func divisions(cells []int) []api.Division {
	if len(cells) == 0 {
		return []api.Division{{}}
	}
	var out []api.Division
	for _, part := range sublists(cells[1:]) {
		first := slices.Concat(cells[:1], part)
		for _, d := range divisions(without(cells, first)) {
			out = append(out, api.Division{Patches: slices.Concat([][]int{first}, d.Patches)})
		}
	}
	return out
}

func without(l, others []int) []int {
	return slices.DeleteFunc(slices.Clone(l), func(n int) bool { return slices.Contains(others, n) })
}

func compareDivisions(a, b api.Division) int {
	return slices.CompareFunc(a.Patches, b.Patches, slices.Compare)
}

// why says why a patch does not fit.
func (x model) why(patch []int) uint8 {
	if len(patch) == 0 {
		return api.FitEmpty
	}
	if !x.joined(patch) {
		return api.FitApart
	}
	if !slices.ContainsFunc(x.l.Stages, func(st api.Stage) bool { return x.reaches(st, patch) }) {
		return api.FitReach
	}
	if x.work(patch) > x.l.Minutes {
		return api.FitWork
	}
	return api.FitOk
}

// joined finds the ways between all cells of a patch, longer and longer ones.
func (x model) joined(patch []int) bool {
	way := map[api.Pair]bool{}
	for _, a := range patch {
		way[api.Pair{A: a, B: a}] = true
	}
	for _, seam := range x.s.Seams {
		if slices.Contains(patch, seam.A) && slices.Contains(patch, seam.B) {
			way[api.Pair{A: seam.A, B: seam.B}], way[api.Pair{A: seam.B, B: seam.A}] = true, true
		}
	}
	for _, over := range patch {
		for _, a := range patch {
			for _, b := range patch {
				if way[api.Pair{A: a, B: over}] && way[api.Pair{A: over, B: b}] {
					way[api.Pair{A: a, B: b}] = true
				}
			}
		}
	}
	return len(way) == len(patch)*len(patch)
}

func (x model) reaches(st api.Stage, patch []int) bool {
	return !slices.ContainsFunc(patch, func(i int) bool { return x.s.Cells[i].Low < st.From || x.s.Cells[i].High > st.To })
}

func (x model) work(patch []int) int {
	sum := 0
	for _, i := range patch {
		sum += x.s.Cells[i].Work
	}
	return sum
}

func (x model) isRight(d api.Division) bool {
	return !slices.ContainsFunc(d.Patches, func(patch []int) bool { return x.why(patch) != api.FitOk })
}

// between returns the seams between different patches.
func (x model) between(d api.Division) []int {
	var out []int
	for i, seam := range x.s.Seams {
		if !slices.ContainsFunc(d.Patches, func(patch []int) bool { return slices.Contains(patch, seam.A) && slices.Contains(patch, seam.B) }) {
			out = append(out, i)
		}
	}
	return out
}

func (x model) cost(d api.Division) api.Cost {
	cost := api.Cost{Days: len(d.Patches)}
	for _, i := range x.between(d) {
		cost.Seam += x.s.Seams[i].Price
	}
	return cost
}

// doubled returns the doubled cost of a patch.
func (x model) doubled(patch []int) api.Cost {
	cost := api.Cost{Days: 1}
	for _, seam := range x.s.Seams {
		if slices.Contains(patch, seam.A) != slices.Contains(patch, seam.B) {
			cost.Seam += seam.Price
		}
	}
	return cost
}

func compareCosts(x, y api.Cost) int {
	return cmp.Or(cmp.Compare(x.Days, y.Days), cmp.Compare(x.Seam, y.Seam))
}

// least returns all least divisions, in order.
func (x model) least() []api.Division {
	var out []api.Division
	for _, d := range x.right {
		if len(out) > 0 && compareCosts(x.cost(d), x.cost(out[0])) < 0 {
			out = nil
		}
		if len(out) == 0 || x.cost(d) == x.cost(out[0]) {
			out = append(out, d)
		}
	}
	return out
}

// numbered returns the cells of the set with a number.
func (x model) numbered(number int) []int {
	return slices.DeleteFunc(x.cells(), func(i int) bool { return number>>i&1 == 0 })
}

// numberOf returns the number of the set of some cells.
func numberOf(cells []int) int {
	n := 0
	for _, i := range cells {
		n += 1 << i
	}
	return n
}

// table returns the table of Least, from all divisions of all sets.
func (x model) table() api.Table {
	var out api.Table
	for number := range 1 << len(x.s.Cells) {
		best := api.Cost{Days: 1000000}
		for _, d := range divisions(x.numbered(number)) {
			var cost api.Cost
			for _, patch := range d.Patches {
				one := x.doubled(patch)
				cost = api.Cost{Days: cost.Days + one.Days, Seam: cost.Seam + one.Seam}
			}
			if x.isRight(d) && compareCosts(cost, best) < 0 {
				best = cost
			}
		}
		out.Values = append(out.Values, best)
	}
	return out
}
