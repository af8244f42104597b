package keep_test

import (
	"slices"
	"strings"
	"testing"

	"giornata/api"
	"giornata/keep"
)

// R3: no function changes its arguments, and results are new memory.
func TestArgumentsStay(t *testing.T) {
	roomy := func(l []api.Act) []api.Act {
		out := slices.Grow(clone(l), 5)
		for i := range out {
			out[i].Faces = slices.Grow(out[i].Faces, 5)
		}
		return out
	}
	spoil := func(l []api.Act) []api.Act {
		out := clone(l)
		for i := range l {
			for j := range l[i].Faces {
				l[i].Faces[j] = 99
			}
			_ = append(l[i].Faces, 98)
		}
		for i := range l {
			l[i] = api.Act{Office: 99}
		}
		_ = append(l, api.Act{Office: 98})
		return out
	}
	ints := func(l []int) []int {
		out := slices.Clone(l)
		for i := range l[:cap(l)] {
			l[:cap(l)][i] = 99
		}
		return out
	}
	r := chapterRegister()
	a, b, x := roomy(r), roomy(r[:3]), act("1 4 9 repaint green 2 3")
	calls := map[string]func() results{
		"Check":    func() results { return of(keep.Check(a)) },
		"CheckAct": func() results { return of(keep.CheckAct(a[0])) },
		"Write":    func() results { return of(keep.Write(a[0])) },
		"Count":    func() results { return of(keep.Count(a)) },
		"Read": func() results {
			y, e := keep.Read("0 1 5 crack 1 2")
			return of(spoil([]api.Act{y}), e)
		},
		"Merge":           func() results { l, e := keep.Merge(a, b); return of(spoil(l), e) },
		"Merge with none": func() results { l, e := keep.Merge(nil, a); return of(spoil(l), e) },
		"Missing":         func() results { l, e := keep.Missing(a, stock(1, 1)); return of(spoil(l), e) },
		"Before":          func() results { return of(spoil(keep.Before(a, 8))) },
		"By":              func() results { return of(spoil(keep.By(a, 0))) },
		"Void":            func() results { l, e := keep.Void(a); return of(ints(l), e) },
		"Undone":          func() results { l, e := keep.Undone(a); return of(ints(l), e) },
		"Touching":        func() results { l, e := keep.Touching(a, 1); return of(ints(l), e) },
		"Changes":         func() results { l, e := keep.Changes(a, x); return of(ints(l), e) },
		"Fold": func() results {
			l, e := keep.Fold(a[:5])
			out := slices.Clone(l)
			for i := range l {
				out[i].Layers = slices.Clone(l[i].Layers)
			}
			for i := range l {
				for j := range l[i].Layers {
					l[i].Layers[j].Act = 99
				}
				_ = append(l[i].Layers, api.Layer{})
			}
			return of(out, e)
		},
	}
	for name, call := range calls {
		first := call()
		want(t, name+" once more", call(), first)
		want(t, "the arguments of "+name, a, r)
		want(t, "the other arguments of "+name, b, r[:3])
		want(t, "the room behind the arguments of "+name, a[:9][8], api.Act{})
		for i := range a {
			want(t, "the room behind the Faces of "+name, slices.Max(append(a[i].Faces[:cap(a[i].Faces)], 0)) <= 3, true)
		}
	}
}

// R3: a nil slice and an empty one are equivalent.
func TestNilAndEmpty(t *testing.T) {
	none, empty := list("0 1 5 crack 1", "0 2 6 undo 8"), list("0 1 5 crack 1", "0 2 6 undo 8")
	none[1].Faces, empty[1].Faces = nil, []int{}
	wants(t, "Merge", of(keep.Merge(none, empty)), none, api.OK)
	wants(t, "Write", of(keep.Write(empty[1])), "0 2 6 undo 8", api.OK)
	wants(t, "Void", of(keep.Void(empty)), []int(nil), api.OK)
	wants(t, "Void of an empty list", of(keep.Void([]api.Act{})), []int(nil), api.OK)
	wants(t, "Fold of an empty list", of(keep.Fold([]api.Act{})), make([]api.State, 100), api.OK)
	wants(t, "Merge of empty lists", of(keep.Merge([]api.Act{}, nil)), []api.Act(nil), api.OK)
	wants(t, "Missing of an empty list", of(keep.Missing([]api.Act{}, api.Stock{})), []api.Act(nil), api.OK)
	k := keeper(t, 0)
	sign(t, k, "0 0 5 crack 1")
	wants(t, "Sign", of(k.Sign(empty[1])), 2, api.OK)
	hear(t, k, letter("0 2 6 undo 8", "1 1 6 undo 8"), have(2, 1))
}

// R1: no function panics, whatever it is given.
func TestAnyArguments(t *testing.T) {
	few := []int{tiny, tiny + 1, -9, -1, 0, 0, 1, 1, 2, 3, 7, 8, 9, 16, 17, 100, 101, 499, 500, 501, 4007, 4008, 100000, 100001, huge - 1, huge}
	d := &dice{22}
	n := func() int { return few[d.roll(len(few))] }
	words := []string{"", " ", "\n", "0", "1", "have", "acts", "acts 1\n", "0 1 5 crack 1", "crack", "undo", "blue", "-1", "\xff", "0 0 0 0 0 0 0 0\n", "501", strings.Repeat("9", 3000)}
	k := keeper(t, 0, "0 0 5 crack 1")
	for range 5000 {
		l := d.register(d.roll(5), 3, 5)
		for range d.roll(3) {
			x := api.Act{Office: n(), Number: n(), Day: n(), Kind: uint8(n()), Faces: p(n(), n())[:d.roll(3)], Name: words[d.roll(len(words))], What: n()}
			l = slices.Insert(l, d.roll(len(l)+1), x)
		}
		var s api.Stock
		s.Have[d.roll(8)] = n()
		keep.Check(l)
		keep.Count(l)
		keep.Merge(l, l[:d.roll(len(l)+1)])
		keep.Missing(l, s)
		keep.Void(l)
		keep.Undone(l)
		keep.Fold(l)
		keep.Touching(l, n())
		keep.Before(l, n())
		keep.By(l, n())
		for _, x := range l {
			keep.CheckAct(x)
			keep.Ref(x)
			keep.Write(x)
			keep.Changes(l, x)
			k.Sign(x)
		}
		text := words[d.roll(len(words))] + words[d.roll(len(words))] + words[d.roll(len(words))]
		if x, e := keep.Read(text); e != api.OK {
			want(t, "Read with an error", isZero(x), true)
		}
		if answer, e := k.Hear(text); e != api.OK {
			want(t, "Hear with an error", answer, "")
		}
	}
	want(t, "a register", keep.Check(k.Register()), api.OK)
}
