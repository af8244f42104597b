package pigment_test

import (
	"slices"
	"strconv"
	"strings"
	"testing"

	"giornata/api"
	"giornata/pigment"
)

const longest = "a-0123456789-z-abcdefghi" // 24 bytes

// badNames are strings that are no names.
var badNames = []string{"", longest + "a", "0a", "-a", "A", "aB", "a b", "a_b", "a.", "á", "a\x00", "a\n", " a", "a ", "`", "{", "a/", "a:", "a\xff"}

// wellFormedRules are rules of all kinds, at the limits of their fields.
var wellFormedRules = []api.Rule{
	fast(1, 0, "a"), fast(1000000, 100000, longest), dry(1, 0, "z"), dry(7, 9, "z-"), beside(1, 0, "a", "b"), beside(1, 0, "a", "a"), over(1, 0, "b", "a"), over(2, 3, "z9", "z9"),
	group(1, 0, "a", "b"), group(1, 1, longest, "a"), void(1, 0, 2), void(1000000, 0, 999999), void(5, 100000, 1), void(1, 5, 1000000),
}

// malformed returns rules of which one field is wrong.
func malformed() []api.Rule {
	out := []api.Rule{{}, {Id: 1}, {Id: 1, Kind: 7, X: "a"}, {Id: 1, Kind: 255, X: "a"}, {Id: 1, X: "a"}, group(1, 0, "a", "a"), void(1, 0, 0), void(1, 0, 1), void(1, 0, 1000001), void(1, 0, -1), void(1, 0, huge)}
	for _, r := range wellFormedRules {
		with := func(change func(r *api.Rule)) {
			x := r
			change(&x)
			out = append(out, x)
		}
		for _, id := range ids(0, -1, 1000001, huge, tiny) {
			with(func(r *api.Rule) { r.Id = id })
		}
		for _, known := range ids(-1, 100001, huge, tiny) {
			with(func(r *api.Rule) { r.Known = known })
		}
		if r.Kind == api.RuleVoid {
			with(func(r *api.Rule) { r.X = "a" })
			with(func(r *api.Rule) { r.Y = "a" })
			with(func(r *api.Rule) { r.Of = r.Id })
			continue
		}
		with(func(r *api.Rule) { r.Of = 2 })
		with(func(r *api.Rule) { r.Of = -1 })
		for _, name := range badNames {
			with(func(r *api.Rule) { r.X = name })
			if r.Y != "" {
				with(func(r *api.Rule) { r.Y = name })
			}
		}
		if r.Y == "" {
			with(func(r *api.Rule) { r.Y = "b" })
			with(func(r *api.Rule) { r.Y = " " })
		}
	}
	return out
}

// F1: the chapter's book, and the limits.
func TestCheck(t *testing.T) {
	want(t, "bytes of the longest name", len(longest), 24)
	for _, b := range []api.Book{
		chapterBook(), book(), many(200),
		book(fast(9, 5, "a"), dry(8, 5, "a"), fast(7, 5, "a")),
		book(fast(1, 0, "a"), void(2, 0, 1), void(3, 0, 1), void(4, 1, 1)),
		book(group(1, 0, "a", "b"), group(2, 0, "a", "b"), group(3, 0, "a", "c"), group(4, 0, "b", "d"), group(5, 0, "c", "d"), group(6, 0, "a", "d")),
		book(over(1, 0, "a", "b"), over(2, 0, "b", "a"), beside(3, 0, "a", "a"), group(4, 0, "a", "b")),
	} {
		wants(t, "Check", of(pigment.Check(b)), 0, api.OK)
	}
	for _, r := range wellFormedRules {
		if r.Kind != api.RuleVoid {
			wants(t, "Check of one rule", of(pigment.Check(book(r))), 0, api.OK)
		}
	}
}

// F1: each error, the rule that is refused, and the order of the errors.
func TestCheckErrors(t *testing.T) {
	full := many(200)
	for _, x := range []struct {
		name string
		b    api.Book
		at   int
		e    api.Errno
	}{
		{"201 rules", many(201), 200, api.ErrLimit},
		{"300 rules", many(300), 200, api.ErrLimit},
		{"a rule behind 200 that is wrong in all ways", book(slices.Concat(full.Rules, []api.Rule{{Id: 1, Known: -1}})...), 200, api.ErrLimit},
		{"no rule", book(api.Rule{}), 0, api.ErrArg},
		{"a group of itself", book(fast(1, 0, "a"), group(2, 0, "a", "a")), 1, api.ErrArg},
		{"a wrong rule before others", book(fast(1, 0, "a"), fast(2, 0, "A"), fast(1, 0, "a")), 1, api.ErrArg},
		{"wrong before its Id", book(fast(1, 0, "a"), fast(1, 0, "A")), 1, api.ErrArg},
		{"an Id twice", book(fast(1, 0, "a"), dry(2, 0, "a"), dry(1, 0, "b")), 2, api.ErrTwice},
		{"an Id twice, of a void", book(fast(1, 0, "a"), void(2, 0, 1), void(2, 0, 1)), 2, api.ErrTwice},
		{"the Id before the day", book(fast(1, 5, "a"), dry(1, 4, "b")), 1, api.ErrTwice},
		{"a day before", book(fast(1, 5, "a"), fast(2, 5, "b"), fast(3, 4, "c")), 2, api.ErrTime},
		{"a day before that of the rule before alone", book(fast(1, 3, "a"), fast(2, 5, "b"), fast(3, 4, "c")), 2, api.ErrTime},
		{"the day before the void", book(fast(1, 5, "a"), void(2, 4, 9)), 1, api.ErrTime},
		{"the day before the circle", book(group(1, 5, "a", "b"), group(2, 4, "b", "a")), 1, api.ErrTime},
		{"a void of nothing", book(void(1, 0, 2)), 0, api.ErrNone},
		{"a void of a later rule", book(void(1, 0, 2), fast(2, 0, "a")), 0, api.ErrNone},
		{"a void of a void", book(fast(1, 0, "a"), void(2, 0, 1), void(3, 0, 2)), 2, api.ErrNone},
		{"a circle of two groups", book(group(1, 0, "a", "b"), group(2, 0, "b", "a")), 1, api.ErrLoop},
		{"a circle of three groups", book(group(1, 0, "b", "c"), group(2, 0, "x", "b"), group(3, 0, "c", "a"), group(4, 0, "a", "b")), 3, api.ErrLoop},
		{"a circle with a group that is withdrawn", book(group(1, 0, "a", "b"), void(2, 0, 1), group(3, 0, "b", "a")), 2, api.ErrLoop},
		{"a circle of groups of different days", book(group(1, 0, "a", "b"), group(2, 100000, "b", "a")), 1, api.ErrLoop},
	} {
		wants(t, x.name, of(pigment.Check(x.b)), x.at, x.e)
	}
	for _, r := range malformed() {
		wants(t, "Check of "+spelt(r), of(pigment.Check(book(fast(9, 0, "x"), r))), 1, api.ErrArg)
	}
}

func spelt(r api.Rule) string {
	return strings.Join([]string{strconv.Itoa(r.Id), strconv.Itoa(r.Known), strconv.Itoa(int(r.Kind)), strconv.Quote(r.X), strconv.Quote(r.Y), strconv.Itoa(r.Of)}, " ")
}

// checked finds by the words of the chapter what Check says.
func checked(b api.Book) (int, api.Errno) {
	for i, r := range b.Rules {
		before := b.Rules[:i]
		isGroup := func(x api.Rule) bool { return x.Kind == api.RuleGroup }
		circle := modelOf(book(slices.DeleteFunc(slices.Clone(before), func(x api.Rule) bool { return !isGroup(x) })...), 100000)
		switch {
		case i == 200:
			return i, api.ErrLimit
		case !wellFormed(r):
			return i, api.ErrArg
		case slices.ContainsFunc(before, func(x api.Rule) bool { return x.Id == r.Id }):
			return i, api.ErrTwice
		case i > 0 && r.Known < before[i-1].Known:
			return i, api.ErrTime
		case r.Kind == api.RuleVoid && !slices.ContainsFunc(before, func(x api.Rule) bool { return x.Id == r.Of && x.Kind != api.RuleVoid }):
			return i, api.ErrNone
		case isGroup(r) && circle.belongs(r.Y, r.X):
			return i, api.ErrLoop
		}
	}
	return 0, api.OK
}

// F1: any books, and valid ones with one rule more.
func TestCheckOfAnyBook(t *testing.T) {
	d := &dice{1}
	for range 400 {
		b := d.any()
		if d.roll(2) == 0 {
			b = d.valid()
			b.Rules = append(b.Rules, d.rule())
		}
		at, e := checked(b)
		wants(t, "Check", of(pigment.Check(b)), at, e)
	}
}

// F1: Append.
func TestAppend(t *testing.T) {
	b := chapterBook()
	for i, r := range b.Rules {
		wants(t, "Append", of(pigment.Append(book(b.Rules[:i]...), r)), book(b.Rules[:i+1]...), api.OK)
	}
	for _, x := range []struct {
		name string
		b    api.Book
		r    api.Rule
		e    api.Errno
	}{
		{"to a full book", many(200), fast(300, 300, "a"), api.ErrLimit},
		{"a rule that is not well-formed", b, api.Rule{}, api.ErrArg},
		{"an Id that is there", b, fast(1, 20, "a"), api.ErrTwice},
		{"an earlier day", b, fast(8, 19, "a"), api.ErrTime},
		{"a void of nothing", b, void(8, 20, 9), api.ErrNone},
		{"a void of itself", b, void(8, 20, 8), api.ErrArg},
		{"a void of a void", b, void(8, 20, 6), api.ErrNone},
		{"a circle", b, group(8, 20, "earth", "ochre"), api.ErrLoop},
		{"to a book that is not valid, a rule that is refused otherwise", book(fast(1, 5, "a"), fast(2, 4, "a")), fast(1, 5, "A"), api.ErrTime},
		{"to a book that is not valid, a good rule", book(void(1, 0, 2)), fast(2, 0, "a"), api.ErrNone},
		{"to a book that is too long", many(201), api.Rule{}, api.ErrLimit},
	} {
		wants(t, "Append "+x.name, of(pigment.Append(x.b, x.r)), api.Book{}, x.e)
	}
	wants(t, "Append to 199 rules", of(pigment.Append(many(199), many(200).Rules[199])), many(200), api.OK)
	d := &dice{2}
	for range 300 {
		b, r := d.valid(), d.rule()
		r.Known += d.roll(9)
		longer := book(slices.Concat(b.Rules, []api.Rule{r})...)
		_, e := checked(longer)
		if e != api.OK {
			longer = api.Book{}
		}
		wants(t, "Append", of(pigment.Append(b, r)), longer, e)
	}
}
