package keep_test

import (
	"slices"
	"testing"

	"giornata/api"
	"giornata/keep"
)

// noRegisters are lists of which something is not as it has to be.
func noRegisters() [][]api.Act {
	return [][]api.Act{
		{{}},
		list("0 2 5 crack 1"),
		list("0 1 5 crack 1", "0 3 5 mend 1"),
		list("0 1 5 crack 1", "0 1 5 crack 1"),
		list("0 1 5 crack 1", "0 1 6 crack 1"),
		list("0 2 5 crack 1", "0 1 6 mend 1"),
		list("0 1 5 crack 1", "0 2 4 mend 1"),
		list("1 1 5 crack 1", "0 1 5 mend 1"),
		list("0 1 5 crack 1", "1 2 5 mend 1"),
		list("0 1 5 crack 1", "0 2 5 mend 101"),
		list("0 1 5 crack 1", "0 2 5 undo 16"),
		append(chapterRegister(), act("0 6 8 crack 1")),
		append(chapterRegister(), act("1 3 9 undo 17")),
		append(chapterRegister(), act("0 6 9 crack 1")),
		append(chapterRegister(), act("1 5 9 crack 1")),
		slices.Delete(chapterRegister(), 0, 1),
		many(0, 501),
	}
}

// J3: which lists are registers.
func TestCheck(t *testing.T) {
	for _, l := range [][]api.Act{nil, {}, chapterRegister(), list("1 1 5 crack 1", "0 1 6 mend 1"), list("0 1 5 crack 1", "0 2 5 mend 1", "1 1 5 crack 2", "7 1 5 crack 2", "0 3 6 crack 1"), many(3, 500), crowd()} {
		want(t, "Check of a register", keep.Check(l), api.OK)
	}
	for _, l := range noRegisters() {
		if e := keep.Check(l); e != api.ErrArg {
			t.Errorf("Check of %v: error %d", l, e)
		}
	}
}

// J3: how many acts of each office a list has, whatever it is.
func TestCount(t *testing.T) {
	want(t, "Count of the chapter's", keep.Count(chapterRegister()), stock(5, 3))
	want(t, "Count of none", keep.Count(nil), api.Stock{})
	want(t, "Count of all", keep.Count(crowd()), stock(500, 500, 500, 500, 500, 500, 500, 500))
	l := []api.Act{{}, {}, {Office: -1}, {Office: 8}, {Office: 7, Number: -5}, {Office: huge}, {Office: tiny}, {Office: 7, Number: 5}}
	want(t, "Count of a list that is no register", keep.Count(l), stock(2, 0, 0, 0, 0, 0, 0, 2))
	want(t, "Count of more than 500", keep.Count(many(2, 501)), stock(0, 0, 501))
}

// J4: merging.
func TestMerge(t *testing.T) {
	r := chapterRegister()
	first := func(l []api.Act, office, count int) []api.Act {
		return slices.DeleteFunc(clone(l), func(x api.Act) bool { return x.Office == office && x.Number > count })
	}
	wants(t, "Merge of parts", of(keep.Merge(first(r, 0, 2), first(r, 1, 0))), r, api.OK)
	wants(t, "Merge of other parts", of(keep.Merge(first(r, 0, 0), first(r, 1, 1))), r, api.OK)
	wants(t, "Merge with a part", of(keep.Merge(r, first(first(r, 0, 2), 1, 1))), r, api.OK)
	wants(t, "Merge with itself", of(keep.Merge(r, r)), r, api.OK)
	wants(t, "Merge with none", of(keep.Merge(r, nil)), r, api.OK)
	wants(t, "Merge of none", of(keep.Merge(nil, nil)), []api.Act(nil), api.OK)
	one, other := list("1 1 5 crack 1", "1 2 9 crack 2"), list("0 1 5 crack 1", "2 1 7 crack 1", "0 2 9 mend 1")
	wants(t, "Merge by the Day, then by the Office", of(keep.Merge(one, other)), list("0 1 5 crack 1", "1 1 5 crack 1", "2 1 7 crack 1", "0 2 9 mend 1", "1 2 9 crack 2"), api.OK)
	all := crowd()
	wants(t, "Merge of all", of(keep.Merge(first(all, 3, 17), first(all, 6, 499))), all, api.OK)
}

// J4: the errors of merging, in their order.
func TestMergeErrors(t *testing.T) {
	r := chapterRegister()
	for _, l := range noRegisters() {
		wants(t, "Merge of no register", of(keep.Merge(l, r)), []api.Act(nil), api.ErrArg)
		wants(t, "Merge with no register", of(keep.Merge(r, l)), []api.Act(nil), api.ErrArg)
	}
	for _, line := range []string{"0 2 7 mend 1 2", "0 2 5 mend 1 2", "0 2 6 crack 1 2", "0 2 6 mend 1", "0 2 6 mend 1 3", "0 2 6 repaint blue 1 2"} {
		l := list("0 1 5 crack 1 2", line)
		want(t, "a register", keep.Check(l), api.OK)
		wants(t, "Merge with another act "+line, of(keep.Merge(r, l)), []api.Act(nil), api.ErrState)
		wants(t, "Merge of another act "+line, of(keep.Merge(l, r)), []api.Act(nil), api.ErrState)
		l = append(l, act("0 3 4 crack 1"))
		wants(t, "Merge with another act, of no register", of(keep.Merge(r, l)), []api.Act(nil), api.ErrArg)
	}
	wants(t, "Merge with another name", of(keep.Merge(list("1 1 5 repaint blue 1"), list("1 1 5 repaint red 1"))), []api.Act(nil), api.ErrState)
	wants(t, "Merge with another What", of(keep.Merge(list("1 1 5 undo 8"), list("1 1 5 undo 10"))), []api.Act(nil), api.ErrState)
}

// J5: what a stock is missing.
func TestMissing(t *testing.T) {
	r := chapterRegister()
	wants(t, "Missing of the chapter", of(keep.Missing(r, stock(3, 3))), list("0 4 9 undo 17", "0 5 9 undo 24"), api.OK)
	wants(t, "Missing of none", of(keep.Missing(r, stock(5, 3))), []api.Act(nil), api.OK)
	wants(t, "Missing of less than none", of(keep.Missing(r, stock(500, 500, 500))), []api.Act(nil), api.OK)
	wants(t, "Missing by the Office, then by the Number", of(keep.Missing(r, stock(4, 1, 9))), list("0 5 9 undo 24", "1 2 7 repaint blue 1 3", "1 3 9 undo 17"), api.OK)
	wants(t, "Missing of no acts", of(keep.Missing(nil, api.Stock{})), []api.Act(nil), api.OK)
	wants(t, "the first 50", of(keep.Missing(many(2, 60), stock())), many(2, 50), api.OK)
	wants(t, "50", of(keep.Missing(many(2, 60), stock(0, 0, 10))), many(2, 60)[10:], api.OK)
	wants(t, "49", of(keep.Missing(many(2, 60), stock(0, 0, 11))), many(2, 60)[11:], api.OK)
	l := append(many(0, 30), many(1, 30)...)
	wants(t, "the first 50 of two offices", of(keep.Missing(l, stock())), l[:50], api.OK)
	wants(t, "the last 45 of two offices", of(keep.Missing(l, stock(5, 10))), slices.Concat(l[5:30], l[40:]), api.OK)
}

// J5: the errors.
func TestMissingErrors(t *testing.T) {
	for _, l := range noRegisters() {
		wants(t, "Missing of no register", of(keep.Missing(l, stock())), []api.Act(nil), api.ErrArg)
	}
	for _, n := range p(-1, 501, huge, tiny) {
		for office := range 8 {
			var s api.Stock
			s.Have[office] = n
			wants(t, "Missing of no stock", of(keep.Missing(chapterRegister(), s)), []api.Act(nil), api.ErrArg)
		}
	}
}

// J10: parts of lists, whatever they are.
func TestBeforeAndBy(t *testing.T) {
	r := chapterRegister()
	want(t, "Before 4", keep.Before(r, 4), []api.Act(nil))
	want(t, "Before 5", keep.Before(r, 5), r[:2])
	want(t, "Before 8", keep.Before(r, 8), r[:5])
	want(t, "Before 9", keep.Before(r, 9), r)
	want(t, "Before the least day", keep.Before(r, tiny), []api.Act(nil))
	want(t, "Before the greatest day", keep.Before(r, huge), r)
	want(t, "By 0", keep.By(r, 0), list("0 1 5 crack 1 2", "0 2 6 mend 1 2", "0 3 8 repaint red 3", "0 4 9 undo 17", "0 5 9 undo 24"))
	want(t, "By 1", keep.By(r, 1), list("1 1 5 repaint blue 1", "1 2 7 repaint blue 1 3", "1 3 9 undo 17"))
	want(t, "By 2", keep.By(r, 2), []api.Act(nil))
	odd := []api.Act{{Office: -3, Day: 9, Faces: p(3, 2, 500)}, {Office: 12, Day: -9, Name: "?"}, {Office: -3, Day: -9}}
	want(t, "Before of other lists", keep.Before(odd, -9), odd[1:])
	want(t, "By of an office that is none", keep.By(odd, -3), []api.Act{odd[0], odd[2]})
	want(t, "Before of none", keep.Before(nil, 5), []api.Act(nil))
	want(t, "By of none", keep.By(nil, 0), []api.Act(nil))
}

// P9.3 (T8): merging is commutative, associative and idempotent.
func TestMerging(t *testing.T) {
	d := &dice{12}
	merge := func(a, b []api.Act) []api.Act {
		t.Helper()
		out, e := keep.Merge(a, b)
		want(t, "the error of Merge", e, api.OK)
		return out
	}
	for range 300 {
		all := d.register(d.roll(60), 1+d.roll(8), 5)
		want(t, "a register", keep.Check(all), api.OK)
		a, b, c := d.part(all), d.part(all), d.part(all)
		ab := merge(a, b)
		want(t, "a merged register", keep.Check(ab), api.OK)
		want(t, "the other way round", merge(b, a), ab)
		want(t, "the other one first", merge(ab, c), merge(a, merge(b, c)))
		want(t, "once more", merge(ab, b), ab)
		want(t, "with all", merge(ab, all), all)
		one, other, both := keep.Count(a), keep.Count(b), keep.Count(ab)
		for i := range both.Have {
			want(t, "the stock of both", both.Have[i], max(one.Have[i], other.Have[i]))
		}
		missing, e := keep.Missing(ab, one)
		want(t, "the error of Missing", e, api.OK)
		for _, x := range missing {
			is := func(y api.Act) bool { return same(x, y) }
			want(t, "what is missing is of the other part alone", slices.ContainsFunc(b, is) && !slices.ContainsFunc(a, is), true)
		}
		want(t, "how many are missing", len(missing), min(50, len(ab)-len(a)))
	}
}
