package pigment_test

import (
	"reflect"
	"slices"
	"strconv"
	"strings"
	"testing"

	"giornata/api"
	"giornata/pigment"
)

const (
	huge = int(^uint(0) >> 1)
	tiny = -huge - 1
)

func fast(id, known int, x string) api.Rule {
	return api.Rule{Id: id, Known: known, Kind: api.RuleFast, X: x}
}

func dry(id, known int, x string) api.Rule {
	return api.Rule{Id: id, Known: known, Kind: api.RuleDry, X: x}
}

func beside(id, known int, x, y string) api.Rule {
	return api.Rule{Id: id, Known: known, Kind: api.RuleBeside, X: x, Y: y}
}

func over(id, known int, x, y string) api.Rule {
	return api.Rule{Id: id, Known: known, Kind: api.RuleOver, X: x, Y: y}
}

func group(id, known int, x, y string) api.Rule {
	return api.Rule{Id: id, Known: known, Kind: api.RuleGroup, X: x, Y: y}
}

func void(id, known, of int) api.Rule {
	return api.Rule{Id: id, Known: known, Kind: api.RuleVoid, Of: of}
}

func book(rules ...api.Rule) api.Book { return api.Book{Rules: rules} }

func names(l ...string) []string { return l }

func ids(l ...int) []int { return l }

// chapterBook returns the book B of the chapter.
func chapterBook() api.Book {
	return book(group(1, 0, "ochre", "earth"), fast(2, 0, "earth"), dry(3, 0, "azurite"), over(4, 5, "azurite", "earth"),
		dry(5, 9, "ochre"), void(6, 20, 5), beside(7, 20, "verdigris", "white"))
}

// chapterSource is the source of the book B of the chapter.
const chapterSource = "1 0 group ochre earth\n2 0 fast earth\n3 0 dry azurite\n4 5 over azurite earth\n5 9 dry ochre\n6 20 void 5\n7 20 beside verdigris white\n"

// many returns a valid book of n rules, each about another name.
func many(n int) api.Book {
	var b api.Book
	for i := range n {
		b.Rules = append(b.Rules, fast(i+1, i, numbered("x", i)))
	}
	return b
}

func numbered(name string, i int) string { return name + strconv.Itoa(i) }

func tint(name string, price int, shade ...int) api.Tint {
	return api.Tint{Name: name, Shade: shadeOf(shade...), Price: price}
}

func shadeOf(l ...int) [3]int { return [3]int{l[0], l[1], l[2]} }

// chapterTints returns the tints T of the chapter.
func chapterTints() []api.Tint {
	return []api.Tint{tint("a", 4, 0, 0, 0), tint("b", 8, 10, 0, 0), tint("c", 6, 0, 10, 0), tint("d", 5, 5, 0, 0)}
}

// recipe returns a recipe of tints and weights by turns.
func recipe(l ...int) api.Recipe {
	var r api.Recipe
	for i := 1; i < len(l); i += 2 {
		r.Parts = append(r.Parts, api.Part{Tint: l[i-1], Weight: l[i]})
	}
	return r
}

func frac(num, den int) api.Frac { return api.Frac{Num: num, Den: den} }

// same compares results; nil and empty slices are equal, also within structs and lists.
func same(a, b any) bool { return alike(reflect.ValueOf(a), reflect.ValueOf(b)) }

func alike(a, b reflect.Value) bool {
	if !a.IsValid() || !b.IsValid() {
		return blank(a) && blank(b)
	}
	if a.Type() != b.Type() {
		return false
	}
	switch a.Kind() {
	case reflect.Interface:
		return alike(a.Elem(), b.Elem())
	case reflect.Slice:
		if a.Len() != b.Len() {
			return false
		}
		for i := range a.Len() {
			if !alike(a.Index(i), b.Index(i)) {
				return false
			}
		}
		return true
	case reflect.Struct:
		for i := range a.NumField() {
			if !alike(a.Field(i), b.Field(i)) {
				return false
			}
		}
		return true
	}
	return a.Equal(b)
}

// blank reports whether a value is nothing, or an empty slice, which are equivalent.
func blank(v reflect.Value) bool { return !v.IsValid() || v.Kind() == reflect.Slice && v.Len() == 0 }

func want(t *testing.T, name string, got, wanted any) {
	t.Helper()
	if !same(got, wanted) {
		t.Errorf("%s: %v, want %v", name, got, wanted)
	}
}

// results are what a call returned.
type results []any

func of(values ...any) results { return values }

// wants compares all results of a call.
func wants(t *testing.T, name string, got results, wanted ...any) {
	t.Helper()
	for i := range wanted {
		if len(got) != len(wanted) || !same(got[i], wanted[i]) {
			t.Errorf("%s: %v, want %v", name, got, wanted)
			return
		}
	}
}

// dice yields numbers that are the same in every run.
type dice struct{ state uint64 }

func (d *dice) roll(n int) int {
	d.state = d.state*6364136223846793005 + 1442695040888963407
	return int((d.state >> 33) % uint64(n))
}

func (d *dice) one(l []string) string { return l[d.roll(len(l))] }

// few are names of which rules of the dice often speak of the same ones.
var few = []string{"a", "b", "c", "d", "e", "f"}

// rule returns a rule that is well-formed, but need not fit behind others.
func (d *dice) rule() api.Rule {
	r := api.Rule{Id: 1 + d.roll(25), Known: d.roll(10), Kind: uint8(1 + d.roll(6))}
	switch r.Kind {
	case api.RuleVoid:
		r.Of = 1 + d.roll(25)
		if r.Of == r.Id {
			r.Of = 30
		}
	case api.RuleBeside, api.RuleOver:
		r.X, r.Y = d.one(few), d.one(few)
	case api.RuleGroup:
		at := d.roll(len(few))
		r.X, r.Y = few[at], few[(at+1+d.roll(len(few)-1))%len(few)]
	default:
		r.X = d.one(few)
	}
	return r
}

// any returns a book of rules of which some are not well-formed, of Ids that occur twice, of circles and of days in any order.
func (d *dice) any() api.Book {
	var b api.Book
	for range d.roll(25) {
		r := d.rule()
		switch d.roll(20) {
		case 0:
			r.Kind = uint8(d.roll(256))
		case 1:
			r.X = strings.ToUpper(r.X)
		case 2:
			r.Of, r.Y = d.roll(5), d.one(few)
		case 3:
			r.Known = -1
		}
		b.Rules = append(b.Rules, r)
	}
	return b
}

// valid returns a valid book.
func (d *dice) valid() api.Book {
	var b api.Book
	for known := 0; known < 10; known += d.roll(3) {
		r := d.rule()
		r.Id, r.Known = 1+len(b.Rules)*3%17+d.roll(100)*17, known
		if r.Kind == api.RuleVoid && len(b.Rules) > 0 {
			r.Of = b.Rules[d.roll(len(b.Rules))].Id
		}
		if next, e := pigment.Append(b, r); e == api.OK {
			b = next
		}
	}
	return b
}

// shuffled returns the first names in some order, at most all of them.
func (d *dice) shuffled(n int) []string {
	var out []string
	for i := range n {
		out = slices.Insert(out, d.roll(i+1), few[i])
	}
	return out
}

// tints returns n tints of which the shades have numbers of up to most, so that many of them are not free if it is small.
func (d *dice) tints(n, most int) []api.Tint {
	var out []api.Tint
	for i := range n {
		out = append(out, api.Tint{Name: numbered("t", i), Shade: d.shade(most), Price: d.roll(8)})
	}
	return out
}

func (d *dice) shade(most int) [3]int { return shadeOf(d.roll(most+1), d.roll(most+1), d.roll(most+1)) }
