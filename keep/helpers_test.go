package keep_test

import (
	"reflect"
	"slices"
	"strconv"
	"strings"
	"testing"

	"giornata/api"
	"giornata/keep"
)

const (
	huge = int(^uint(0) >> 1)
	tiny = -huge - 1
)

// wordsOfKinds are the words of the kinds of acts.
var wordsOfKinds = []string{"none", "crack", "mend", "loss", "repaint", "remove", "undo"}

// act returns the act with a line, which need not be valid: Office, Number, Day, word, Name of a repaint, What of a removal or an undoing, Faces.
func act(line string) api.Act {
	words := strings.Fields(line)
	kind := slices.Index(wordsOfKinds, words[3])
	n := numbersOf(words[:3])
	x := api.Act{Office: n[0], Number: n[1], Day: n[2], Kind: uint8(kind)}
	rest := words[4:]
	switch uint8(kind) {
	case api.ActRepaint:
		x.Name, rest = rest[0], rest[1:]
	case api.ActRemove, api.ActUndo:
		x.What, rest = numbersOf(rest[:1])[0], rest[1:]
	}
	x.Faces = numbersOf(rest)
	return x
}

func list(lines ...string) []api.Act {
	var out []api.Act
	for _, line := range lines {
		out = append(out, act(line))
	}
	return out
}

func numbersOf(words []string) []int {
	var out []int
	for _, word := range words {
		n, err := strconv.Atoi(word)
		if err != nil {
			panic(err)
		}
		out = append(out, n)
	}
	return out
}

// chapterRegister returns the register R of the chapter.
func chapterRegister() []api.Act {
	return list("0 1 5 crack 1 2", "1 1 5 repaint blue 1", "0 2 6 mend 1 2", "1 2 7 repaint blue 1 3", "0 3 8 repaint red 3", "0 4 9 undo 17", "0 5 9 undo 24", "1 3 9 undo 17")
}

// many returns the register of the first acts of an office, all of one day.
func many(office, count int) []api.Act {
	var out []api.Act
	for i := range count {
		out = append(out, api.Act{Office: office, Number: i + 1, Kind: api.ActRepaint, Faces: p(1 + i%100), Name: "blue"})
	}
	return out
}

// crowd returns the register of as many acts as there can be, one for each day of each office.
func crowd() []api.Act {
	var out []api.Act
	for i := range 500 {
		for office := range 8 {
			out = append(out, api.Act{Office: office, Number: i + 1, Day: i, Kind: api.ActRepaint, Faces: from(1, 100), Name: "red"})
		}
	}
	return out
}

func stock(have ...int) api.Stock {
	var s api.Stock
	copy(s.Have[:], have)
	return s
}

func p(numbers ...int) []int { return numbers }

// from returns count numbers from one on.
func from(first, count int) []int {
	var out []int
	for i := range count {
		out = append(out, first+i)
	}
	return out
}

// clone returns acts with memory of their own.
func clone(l []api.Act) []api.Act {
	out := slices.Clone(l)
	for i := range out {
		out[i].Faces = slices.Clone(out[i].Faces)
	}
	return out
}

// newDisk and start return a disk and a keeper without errors.
func newDisk(t *testing.T, sectors int) *keep.Disk {
	t.Helper()
	d, e := keep.NewDisk(sectors)
	want(t, "the error of NewDisk", e, api.OK)
	return d
}

func start(t *testing.T, d *keep.Disk, office int) *keep.Keeper {
	t.Helper()
	k, e := keep.Start(d, office)
	if e != api.OK {
		t.Fatalf("Start of the office %d: error %d", office, e)
	}
	return k
}

// keeper returns the keeper of an office on a new disk, with some acts of its own.
func keeper(t *testing.T, office int, lines ...string) *keep.Keeper {
	t.Helper()
	k := start(t, newDisk(t, 4000), office)
	sign(t, k, lines...)
	return k
}

// sign signs acts without errors.
func sign(t *testing.T, k *keep.Keeper, lines ...string) {
	t.Helper()
	for _, line := range lines {
		if _, e := k.Sign(act(line)); e != api.OK {
			t.Fatalf("Sign of %q: error %d", line, e)
		}
	}
}

// contents returns all bytes of a disk that is not down.
func contents(t *testing.T, d *keep.Disk, sectors int) string {
	t.Helper()
	var out strings.Builder
	for i := range sectors {
		b, e := d.Read(i)
		want(t, "the error of Read", e, api.OK)
		out.Write(b)
	}
	return out.String()
}

// same compares results; nil and empty slices are equal, also within structs and lists.
func same(a, b any) bool { return alike(reflect.ValueOf(a), reflect.ValueOf(b)) }

func alike(a, b reflect.Value) bool {
	if !a.IsValid() || !b.IsValid() {
		return blank(a) && blank(b)
	}
	if a.Type() != b.Type() {
		return false
	}
	switch a.Kind() {
	case reflect.Interface:
		return alike(a.Elem(), b.Elem())
	case reflect.Slice:
		if a.Len() != b.Len() {
			return false
		}
		for i := range a.Len() {
			if !alike(a.Index(i), b.Index(i)) {
				return false
			}
		}
		return true
	case reflect.Struct:
		for i := range a.NumField() {
			if !alike(a.Field(i), b.Field(i)) {
				return false
			}
		}
		return true
	}
	return a.Equal(b)
}

// blank reports whether a value is nothing, or an empty slice, which are equivalent.
func blank(v reflect.Value) bool { return !v.IsValid() || v.Kind() == reflect.Slice && v.Len() == 0 }

// isZero reports whether a value is zero, where empty slices are nil, also within structs.
func isZero(v any) bool { return same(v, reflect.Zero(reflect.TypeOf(v)).Interface()) }

func want(t *testing.T, name string, got, wanted any) {
	t.Helper()
	if !same(got, wanted) {
		t.Errorf("%s: %v, want %v", name, got, wanted)
	}
}

// results are what a call returned.
type results []any

func of(values ...any) results { return values }

// wants compares all results of a call.
func wants(t *testing.T, name string, got results, wanted ...any) {
	t.Helper()
	for i := range wanted {
		if len(got) != len(wanted) || !same(got[i], wanted[i]) {
			t.Errorf("%s: %v, want %v", name, got, wanted)
			return
		}
	}
}

// dice yields numbers that are the same in every run.
type dice struct{ state uint64 }

func (d *dice) roll(n int) int {
	d.state = d.state*6364136223846793005 + 1442695040888963407
	return int((d.state >> 33) % uint64(n))
}

// faces returns some of the first n faces.
func (d *dice) faces(n int) []int {
	var out []int
	for i := range n {
		if d.roll(3) == 0 {
			out = append(out, i+1)
		}
	}
	if len(out) == 0 {
		return p(1 + d.roll(n))
	}
	return out
}

// fill makes something of the first n faces of an act whose Office and Number are set; What is the reference of one of some others, most often.
func (d *dice) fill(x api.Act, n int, others []api.Act) api.Act {
	what := 8 + d.roll(4000)
	if len(others) > 0 && d.roll(8) > 0 {
		what = keep.Ref(others[len(others)-1-d.roll(min(len(others), 5))])
	}
	x.Kind = []uint8{api.ActCrack, api.ActMend, api.ActLoss, api.ActRepaint, api.ActRepaint, api.ActRepaint, api.ActRemove, api.ActUndo, api.ActUndo}[d.roll(9)]
	if (x.Kind == api.ActRemove || x.Kind == api.ActUndo) && what == keep.Ref(x) {
		x.Kind = api.ActLoss
	}
	switch x.Kind {
	case api.ActRepaint:
		x.Name = []string{"blue", "red", "x-9"}[d.roll(3)]
	case api.ActRemove, api.ActUndo:
		x.What = what
	}
	if x.Kind != api.ActUndo {
		x.Faces = d.faces(n)
	}
	return x
}

// register returns a register of some acts of the first offices on the first n faces.
func (d *dice) register(count, offices, n int) []api.Act {
	days := make([]api.Pair, count)
	for i := range days {
		days[i] = api.Pair{A: d.roll(1 + count/2), B: d.roll(offices)}
	}
	slices.SortFunc(days, func(x, y api.Pair) int { return (x.A*8 + x.B) - (y.A*8 + y.B) })
	var out []api.Act
	var numbers [8]int
	for _, x := range days {
		numbers[x.B]++
		out = append(out, d.fill(api.Act{Office: x.B, Number: numbers[x.B], Day: x.A}, n, out))
	}
	return out
}

// jumble returns a list of acts that is no register, most often: some have one reference.
func (d *dice) jumble(count, n int) []api.Act {
	var out []api.Act
	for range count {
		out = append(out, d.fill(api.Act{Office: d.roll(2), Number: 1 + d.roll(5), Day: d.roll(9)}, n, out))
	}
	return out
}

// part returns the register that a part of one is: the first acts of each office, as many as the dice like.
func (d *dice) part(l []api.Act) []api.Act {
	var most [8]int
	for i := range most {
		most[i] = d.roll(2 + len(l)/4)
	}
	return slices.DeleteFunc(clone(l), func(x api.Act) bool { return x.Number > most[x.Office] })
}
