package reading_test

import (
	"reflect"
	"slices"
	"strconv"
	"strings"
	"testing"

	"giornata/api"
)

const (
	huge = int(^uint(0) >> 1)
	tiny = -huge - 1
)

// wordsOfKinds are the words of the kinds of observations.
var wordsOfKinds = []string{"none", "over", "same", "apart", "void"}

// list returns the observations with some lines, which need not be well-formed: Id, Known, Reader, word, and the numbers.
func list(lines ...string) []api.Observation {
	var out []api.Observation
	for _, line := range lines {
		words := strings.Fields(line)
		kind := slices.Index(wordsOfKinds, words[3])
		n := numbersOf(slices.Delete(words, 3, 4))
		x := api.Observation{Id: n[0], Known: n[1], Reader: n[2], Kind: uint8(kind)}
		if kind == int(api.ObVoid) {
			x.Of = n[3]
		} else {
			x.A, x.B = n[3], n[4]
		}
		out = append(out, x)
	}
	return out
}

func numbersOf(words []string) []int {
	var out []int
	for _, word := range words {
		n, err := strconv.Atoi(word)
		if err != nil {
			panic(err)
		}
		out = append(out, n)
	}
	return out
}

// facts returns the observations with some lines without Known, which is 0, and Reader, which is 1; as in `7 over 1 2`.
func facts(lines ...string) []api.Observation {
	var out []string
	for _, line := range lines {
		id, rest, _ := strings.Cut(line, " ")
		out = append(out, id+" 0 1 "+rest)
	}
	return list(out...)
}

// fact returns one observation of which only the words `over 1 2` are said.
func fact(words string) api.Observation {
	x := facts("0 " + words)[0]
	x.Reader = 0
	return x
}

// chapterList returns the list l of the chapter.
func chapterList() []api.Observation {
	return list("1 0 1 over 1 2", "2 0 1 same 2 3", "3 5 2 over 3 4", "4 6 2 over 4 1", "5 7 2 void 4")
}

// many returns a valid list of some observations, all of one kind.
func many(count int) []api.Observation {
	var out []api.Observation
	for i := range count {
		out = append(out, api.Observation{Id: i + 1, Reader: 1, Kind: api.ObApart, A: 1, B: 2})
	}
	return out
}

func p(numbers ...int) []int { return numbers }

// from returns count numbers from one on.
func from(first, count int) []int {
	var out []int
	for i := range count {
		out = append(out, first+i)
	}
	return out
}

// pairs returns pairs of numbers.
func pairs(numbers ...int) []api.Pair {
	var out []api.Pair
	for i := 1; i < len(numbers); i += 2 {
		out = append(out, api.Pair{A: numbers[i-1], B: numbers[i]})
	}
	return out
}

// same compares results; nil and empty slices are equal, also within structs and lists.
func same(a, b any) bool { return alike(reflect.ValueOf(a), reflect.ValueOf(b)) }

func alike(a, b reflect.Value) bool {
	if !a.IsValid() || !b.IsValid() {
		return blank(a) && blank(b)
	}
	if a.Type() != b.Type() {
		return false
	}
	switch a.Kind() {
	case reflect.Interface:
		return alike(a.Elem(), b.Elem())
	case reflect.Slice:
		if a.Len() != b.Len() {
			return false
		}
		for i := range a.Len() {
			if !alike(a.Index(i), b.Index(i)) {
				return false
			}
		}
		return true
	case reflect.Struct:
		for i := range a.NumField() {
			if !alike(a.Field(i), b.Field(i)) {
				return false
			}
		}
		return true
	}
	return a.Equal(b)
}

// blank reports whether a value is nothing, or an empty slice, which are equivalent.
func blank(v reflect.Value) bool { return !v.IsValid() || v.Kind() == reflect.Slice && v.Len() == 0 }

// isZero reports whether a value is zero, where empty slices are nil, also within structs.
func isZero(v any) bool { return same(v, reflect.Zero(reflect.TypeOf(v)).Interface()) }

func want(t *testing.T, name string, got, wanted any) {
	t.Helper()
	if !same(got, wanted) {
		t.Errorf("%s: %v, want %v", name, got, wanted)
	}
}

// results are what a call returned.
type results []any

func of(values ...any) results { return values }

// wants compares all results of a call.
func wants(t *testing.T, name string, got results, wanted ...any) {
	t.Helper()
	for i := range wanted {
		if len(got) != len(wanted) || !same(got[i], wanted[i]) {
			t.Errorf("%s: %v, want %v", name, got, wanted)
			return
		}
	}
}

// dice yields numbers that are the same in every run.
type dice struct{ state uint64 }

func (d *dice) roll(n int) int {
	d.state = d.state*6364136223846793005 + 1442695040888963407
	return int((d.state >> 33) % uint64(n))
}

func (d *dice) shuffled(n int) []int {
	var out []int
	for i := range n {
		out = slices.Insert(out, d.roll(i+1), i+1)
	}
	return out
}

// fact returns a well-formed observation of two of at least two things; Id, Known and Reader are not set.
func (d *dice) fact(n int) api.Observation {
	a := d.roll(n)
	b := (a + 1 + d.roll(n-1)) % n
	return api.Observation{Kind: uint8(1 + d.roll(3)), A: a + 1, B: b + 1}
}

// list returns a valid list of observations of n things, as long as the dice like, some of which take others back.
func (d *dice) list(n, most int) []api.Observation {
	var out []api.Observation
	known, count := 0, d.roll(most+1)
	if n < 2 {
		return nil
	}
	for i, id := range d.shuffled(count) {
		x := d.fact(n)
		at := d.roll(i + 1)
		if d.roll(6) == 0 && i > 0 && out[at%i].Kind != api.ObVoid {
			x = api.Observation{Kind: api.ObVoid, Of: out[at%i].Id, Reader: out[at%i].Reader}
		} else {
			x.Reader = 1 + d.roll(2)
		}
		known += d.roll(3)
		x.Id, x.Known = id*3, known
		out = append(out, x)
	}
	return out
}

// seen returns a valid list of observations of n things that a world shows, and so agree.
func (d *dice) seen(n, most int) ([]api.Observation, []int) {
	var days []int
	for range n {
		days = append(days, d.roll(n))
	}
	if n < 2 {
		return nil, ranked(days)
	}
	var out []api.Observation
	for _, id := range d.shuffled(d.roll(most + 1)) {
		x := d.fact(n)
		switch a, b := days[x.A-1], days[x.B-1]; {
		case a == b:
			x.Kind = api.ObSame
		case x.Kind != api.ObApart && a > b:
			x.A, x.B, x.Kind = x.B, x.A, api.ObOver
		case x.Kind != api.ObApart:
			x.Kind = api.ObOver
		}
		x.Id, x.Reader = id, 1
		out = append(out, x)
	}
	return out, ranked(days)
}

// ranked returns the world that days make, by counting the different lesser ones.
func ranked(days []int) []int {
	var out []int
	for _, day := range days {
		lesser := map[int]bool{}
		for _, other := range days {
			lesser[other] = other < day
		}
		rank := 1
		for _, is := range lesser {
			if is {
				rank++
			}
		}
		out = append(out, rank)
	}
	return out
}
