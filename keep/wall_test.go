package keep_test

import (
	"slices"
	"testing"

	"giornata/api"
	"giornata/keep"
)

// fold returns the states of the first faces, and wants the other ones to be as at first.
func fold(t *testing.T, l []api.Act, first int) []api.State {
	t.Helper()
	out, e := keep.Fold(l)
	want(t, "the error of Fold", e, api.OK)
	if len(out) != 100 {
		t.Fatalf("Fold: %d states", len(out))
	}
	for _, s := range out[first:] {
		want(t, "the state of another face", s, api.State{})
	}
	return out[:first]
}

func layers(pairs ...any) []api.Layer {
	var out []api.Layer
	for i := 1; i < len(pairs); i += 2 {
		out = append(out, api.Layer{Act: pairs[i-1].(int), Name: pairs[i].(string)})
	}
	return out
}

// J6 to J9: the chapter's examples.
func TestChapterRegister(t *testing.T) {
	r := chapterRegister()
	want(t, "Check", keep.Check(r), api.OK)
	wants(t, "Void", of(keep.Void(r)), p(1, 5), api.OK)
	wants(t, "Undone", of(keep.Undone(r)), p(3, 4), api.OK)
	want(t, "Fold", fold(t, r, 3), make([]api.State, 3))
	wants(t, "Touching 1", of(keep.Touching(r, 1)), p(0, 2), api.OK)
	wants(t, "Touching 2", of(keep.Touching(r, 2)), p(0, 2), api.OK)
	wants(t, "Touching 3", of(keep.Touching(r, 3)), []int(nil), api.OK)
	wants(t, "Changes", of(keep.Changes(r, act("1 4 9 repaint green 2 3"))), p(2, 3), api.OK)
	want(t, "Fold of the first four", fold(t, r[:4], 3), []api.State{{Layers: layers(17, "blue")}, {}, {Layers: layers(17, "blue")}})
	want(t, "Fold of the first five", fold(t, r[:5], 3), []api.State{{Layers: layers(17, "blue")}, {}, {Layers: layers(17, "blue", 24, "red")}})
}

// J6, J7: what each kind does, and when it is possible. The last act of each list is the one that is looked at.
func TestKinds(t *testing.T) {
	cracked, lost := api.State{Cracked: true}, api.State{Lost: true}
	for _, x := range []struct {
		name     string
		l        []api.Act
		possible bool
		states   []api.State
	}{
		{"a crack", list("0 1 5 crack 1 2"), true, []api.State{cracked, cracked, {}}},
		{"a crack on a cracked face", list("0 1 5 crack 2", "0 2 5 crack 1 2"), false, []api.State{{}, cracked, {}}},
		{"a crack on lost faces", list("0 1 5 loss 1 2", "0 2 5 crack 2"), true, []api.State{lost, {Cracked: true, Lost: true}, {}}},
		{"a crack through layers", list("0 1 5 repaint red 1 2", "0 2 5 crack 2"), true, []api.State{{Layers: layers(8, "red")}, {Cracked: true, Layers: layers(8, "red")}, {}}},
		{"mending", list("0 1 5 crack 1 2 3", "0 2 5 mend 1 3"), true, []api.State{{}, cracked, {}}},
		{"mending of lost faces", list("0 1 5 crack 1", "0 2 5 loss 1", "0 3 5 mend 1"), true, []api.State{lost, {}, {}}},
		{"mending below layers", list("0 1 5 repaint red 1", "0 2 5 crack 1", "0 3 5 mend 1"), true, []api.State{{Layers: layers(8, "red")}, {}, {}}},
		{"mending of a face without a crack", list("0 1 5 crack 1", "0 2 5 mend 1 2"), false, []api.State{cracked, {}, {}}},
		{"a loss", list("0 1 5 loss 1 2"), true, []api.State{lost, lost, {}}},
		{"a loss of layers", list("0 1 5 repaint red 1 3", "0 2 5 repaint blue 1", "0 3 5 loss 1"), true, []api.State{lost, {}, {Layers: layers(8, "red")}}},
		{"a loss of a cracked face", list("0 1 5 crack 1 2", "0 2 5 loss 1"), true, []api.State{{Cracked: true, Lost: true}, cracked, {}}},
		{"a loss of a lost face", list("0 1 5 loss 2", "0 2 5 loss 1 2"), false, []api.State{{}, lost, {}}},
		{"a repaint", list("0 1 5 repaint red 1 3"), true, []api.State{{Layers: layers(8, "red")}, {}, {Layers: layers(8, "red")}}},
		{"a repaint over another one", list("0 1 5 repaint red 1 3", "1 1 5 repaint red 1"), true, []api.State{{Layers: layers(8, "red", 9, "red")}, {}, {Layers: layers(8, "red")}}},
		{"a repaint of lost faces", list("0 1 5 loss 1 2", "0 2 5 repaint red 1"), true, []api.State{{Layers: layers(16, "red")}, lost, {}}},
		{"a repaint of a cracked face", list("0 1 5 crack 1", "0 2 5 repaint red 1 2"), false, []api.State{cracked, {}, {}}},
		{"a removal", list("0 1 5 repaint red 1 2", "0 2 5 repaint blue 1 2", "0 3 5 remove 16 2"), true, []api.State{{Layers: layers(8, "red", 16, "blue")}, {Layers: layers(8, "red")}, {}}},
		{"a removal of the last layer", list("0 1 5 repaint red 1 2", "0 2 5 remove 8 1 2"), true, make([]api.State, 3)},
		{"a removal from a cracked face", list("0 1 5 repaint red 1", "0 2 5 crack 1", "0 3 5 remove 8 1"), true, []api.State{cracked, {}, {}}},
		{"a removal of what is not on top", list("0 1 5 repaint red 1", "0 2 5 repaint blue 1", "0 3 5 remove 8 1"), false, []api.State{{Layers: layers(8, "red", 16, "blue")}, {}, {}}},
		{"a removal of what is on one face", list("0 1 5 repaint red 1", "0 2 5 remove 8 1 2"), false, []api.State{{Layers: layers(8, "red")}, {}, {}}},
		{"a removal from a lost face", list("0 1 5 repaint red 1", "0 2 5 loss 1", "0 3 5 remove 8 1"), false, []api.State{lost, {}, {}}},
		{"a removal of what is no layer", list("0 1 5 crack 1", "0 2 5 remove 8 1"), false, []api.State{cracked, {}, {}}},
	} {
		last := len(x.l) - 1
		void, e := keep.Void(x.l)
		want(t, "the error of Void", e, api.OK)
		want(t, x.name+" is possible", !slices.Contains(void, last), x.possible)
		want(t, "what is void before "+x.name, len(void) > 1 || len(void) == 1 && void[0] < last, false)
		want(t, "the wall behind "+x.name, fold(t, x.l, 3), x.states)
	}
}

// J6: what is undone, and what cannot be.
func TestUndoing(t *testing.T) {
	for _, x := range []struct {
		name         string
		l            []api.Act
		void, undone []int
		states       []api.State
	}{
		{"of a crack", list("0 1 5 crack 1 2", "0 2 5 undo 8"), nil, p(0), make([]api.State, 2)},
		{"of mending", list("0 1 5 crack 1 2", "0 2 5 mend 1", "0 3 5 undo 16"), nil, p(1), []api.State{{Cracked: true}, {Cracked: true}}},
		{"of a loss, which brings layers back", list("0 1 5 repaint red 1", "0 2 5 repaint blue 1", "0 3 5 loss 1", "0 4 5 undo 24"), nil, p(2), []api.State{{Layers: layers(8, "red", 16, "blue")}, {}}},
		{"of a repaint of a lost face", list("0 1 5 loss 1", "0 2 5 repaint red 1", "0 3 5 undo 16"), nil, p(1), []api.State{{Lost: true}, {}}},
		{"of a removal, with another layer meanwhile", list("0 1 5 repaint red 1 2", "0 2 5 remove 8 1", "0 3 5 repaint blue 1", "0 4 5 undo 24", "0 5 5 undo 16"), nil, p(1, 2), []api.State{{Layers: layers(8, "red")}, {Layers: layers(8, "red")}}},
		{"of the first one last", list("0 1 5 repaint red 1 2", "0 2 5 repaint blue 2", "0 3 5 undo 8", "0 4 5 undo 16", "0 5 5 undo 8"), p(2), p(0, 1), make([]api.State, 2)},
		{"of one beside another one", list("0 1 5 repaint red 1", "0 2 5 crack 2", "0 3 5 undo 8"), nil, p(0), []api.State{{}, {Cracked: true}}},
		{"of one with another one on a face of both", list("0 1 5 crack 1 2", "0 2 5 loss 2 3", "0 3 5 undo 8"), p(2), nil, []api.State{{Cracked: true}, {Cracked: true, Lost: true}, {Lost: true}}},
		{"of one with a void one on it", list("0 1 5 crack 1 2", "0 2 5 repaint red 2", "0 3 5 undo 8"), p(1), p(0), make([]api.State, 2)},
		{"of a void one", list("0 1 5 mend 1", "0 2 5 undo 8"), p(0, 1), nil, make([]api.State, 2)},
		{"of one that is not there", list("0 1 5 crack 1", "0 2 5 undo 9"), p(1), nil, []api.State{{Cracked: true}, {}}},
		{"of a later one", list("0 1 5 undo 16", "0 2 5 crack 1"), p(0), nil, []api.State{{Cracked: true}, {}}},
		{"twice", list("0 1 5 crack 1", "0 2 5 undo 8", "0 3 5 undo 8"), p(2), p(0), make([]api.State, 2)},
		{"of an undoing", list("0 1 5 crack 1", "0 2 5 undo 8", "0 3 5 undo 16"), p(2), p(0), make([]api.State, 2)},
		{"and the same again", list("0 1 5 crack 1", "0 2 5 undo 8", "0 3 5 crack 1", "0 4 5 undo 24"), nil, p(0, 2), make([]api.State, 2)},
		{"of the first one of several with a reference", list("0 1 5 crack 1", "0 1 5 crack 2", "0 2 5 undo 8"), nil, p(0), []api.State{{}, {Cracked: true}}},
		{"of the first one of several alone", list("0 1 5 crack 1", "0 1 5 crack 2", "0 3 5 loss 1", "0 2 5 undo 8"), p(3), nil, []api.State{{Cracked: true, Lost: true}, {Cracked: true}}},
		{"of the second one when the first one is undone", list("0 1 5 crack 1", "0 1 5 crack 2", "0 2 5 undo 8", "0 2 5 undo 8", "0 2 5 undo 8"), p(4), p(0, 1), make([]api.State, 2)},
	} {
		wants(t, "Void with an undoing "+x.name, of(keep.Void(x.l)), x.void, api.OK)
		wants(t, "Undone with an undoing "+x.name, of(keep.Undone(x.l)), x.undone, api.OK)
		want(t, "the wall behind an undoing "+x.name, fold(t, x.l, len(x.states)), x.states)
	}
}

// J8, J9: acts that touch a face, and faces that an act changes.
func TestTouchingAndChanges(t *testing.T) {
	l := list("0 1 5 crack 1 2", "0 2 5 mend 2", "0 3 5 loss 2", "0 4 5 repaint red 2 100", "0 5 5 undo 24", "0 6 5 undo 32", "0 7 6 repaint red 3 100")
	for face, wanted := range map[int][]int{1: {0}, 2: {0, 1, 2}, 3: {6}, 4: nil, 99: nil, 100: {6}} {
		wants(t, "Touching", of(keep.Touching(l, face)), wanted, api.OK)
	}
	for line, wanted := range map[string][]int{
		"0 8 6 crack 1":           nil,
		"0 8 6 crack 3 5":         {3, 5},
		"0 8 6 mend 1":            {1},
		"0 8 6 mend 1 2":          nil,
		"0 8 6 loss 2 3":          nil,
		"0 8 6 loss 3 4":          {3, 4},
		"0 8 6 repaint red 3 100": {3, 100},
		"0 8 6 remove 56 3":       {3},
		"0 8 6 remove 56 3 4":     nil,
		"0 8 6 undo 56":           {3, 100},
		"0 8 6 undo 24":           {2},
		"0 8 6 undo 16":           nil,
		"0 8 6 undo 8":            nil,
		"0 1 0 crack 7":           {7},
	} {
		wants(t, "Changes of "+line, of(keep.Changes(l, act(line))), wanted, api.OK)
	}
	wants(t, "Changes behind none", of(keep.Changes(nil, act("0 1 5 loss 4 9"))), p(4, 9), api.OK)
	wants(t, "Touching of none", of(keep.Touching(nil, 100)), []int(nil), api.OK)
}

// J6 to J9: the errors, in their order.
func TestWallErrors(t *testing.T) {
	all := crowd()
	asks := func(l []api.Act, face int, e api.Errno) {
		t.Helper()
		wants(t, "Void", of(keep.Void(l)), []int(nil), e)
		wants(t, "Undone", of(keep.Undone(l)), []int(nil), e)
		wants(t, "Fold", of(keep.Fold(l)), []api.State(nil), e)
		wants(t, "Touching", of(keep.Touching(l, face)), []int(nil), e)
		wants(t, "Changes", of(keep.Changes(l[:len(l)-1], l[len(l)-1])), []int(nil), e)
	}
	asks(append(all, act("0 1 5 crack 1")), 0, api.ErrLimit)
	asks(append(all, api.Act{}), 0, api.ErrLimit)
	asks(make([]api.Act, 4001), 1, api.ErrLimit)
	asks(make([]api.Act, 4000), 101, api.ErrArg)
	for _, x := range invalidActs() {
		asks([]api.Act{x}, 1, api.ErrArg)
		asks([]api.Act{act("0 1 5 crack 1"), x, act("0 2 5 mend 1")}, 1, api.ErrArg)
	}
	wants(t, "Changes behind an act that is not valid", of(keep.Changes([]api.Act{{}}, act("0 1 5 crack 1"))), []int(nil), api.ErrArg)
	wants(t, "Changes of one act too many", of(keep.Changes(all, act("0 1 5 crack 1"))), []int(nil), api.ErrLimit)
	for _, face := range p(0, -1, 101, huge, tiny) {
		wants(t, "Touching of no face", of(keep.Touching(chapterRegister(), face)), []int(nil), api.ErrArg)
	}
}

// J6 to J9: as many acts as there can be.
func TestMostActs(t *testing.T) {
	all := crowd()
	wants(t, "Void", of(keep.Void(all)), []int(nil), api.OK)
	wants(t, "Undone", of(keep.Undone(all)), []int(nil), api.OK)
	wants(t, "Touching", of(keep.Touching(all, 100)), from(0, 4000), api.OK)
	wants(t, "Changes", of(keep.Changes(all[:3999], all[3999])), from(1, 100), api.OK)
	states, e := keep.Fold(all)
	want(t, "the error of Fold", e, api.OK)
	for _, s := range states {
		for i, layer := range s.Layers {
			if layer.Act != keep.Ref(all[i]) {
				t.Fatalf("the layer %d is of the act %d", i, layer.Act)
			}
		}
	}
}

// lists returns lists of both kinds, of which many acts are possible.
func lists(seed uint64, count int) [][]api.Act {
	d := &dice{seed}
	var out [][]api.Act
	for range count {
		out = append(out, d.register(d.roll(40), 1+d.roll(4), 1+d.roll(6)), d.jumble(d.roll(30), 1+d.roll(4)))
	}
	return out
}

// J6 to J9: as the model.
func TestModel(t *testing.T) {
	seen := map[string]int{}
	for i, l := range lists(13, 600) {
		m := modelOf(l)
		wants(t, "Void", of(keep.Void(l)), m.void, api.OK)
		wants(t, "Undone", of(keep.Undone(l)), m.undone, api.OK)
		wants(t, "Fold", of(keep.Fold(l)), m.states(), api.OK)
		for _, face := range p(1, 2, 5, 100) {
			wants(t, "Touching", of(keep.Touching(l, face)), m.touching(face), api.OK)
		}
		x := (&dice{uint64(i)}).fill(api.Act{Office: 1, Number: 4, Day: 3}, 4, l)
		after := modelOf(append(clone(l), x))
		wants(t, "Changes", of(keep.Changes(l, x)), changed(m.states(), after.states()), api.OK)
		seen["void"] += len(m.void)
		seen["undone"] += len(m.undone)
		seen["counting"] += len(m.counting)
	}
	for word, count := range seen {
		want(t, "many acts are "+word, count > 500, true)
	}
}

// P9.4 (T8): an act changes its own faces alone, and a void one none.
func TestOwnFaces(t *testing.T) {
	for _, l := range lists(14, 100) {
		void, _ := keep.Void(l)
		for i, x := range l {
			got, e := keep.Changes(l[:i], x)
			want(t, "the error of Changes", e, api.OK)
			own := x.Faces
			before, _ := keep.Undone(l[:i])
			after, _ := keep.Undone(l[:i+1])
			for _, act := range after {
				if !slices.Contains(before, act) {
					own = l[act].Faces
				}
			}
			if slices.Contains(void, i) {
				want(t, "what a void act changes", got, []int(nil))
			}
			for _, face := range got {
				want(t, "an act changes a face of its own", slices.Contains(own, face), true)
			}
		}
	}
}

// P9.5 (T8): what is undone is as if it had not been.
func TestUndone(t *testing.T) {
	for i, l := range lists(15, 200) {
		void, _ := keep.Void(l)
		undone, _ := keep.Undone(l)
		states, _ := keep.Fold(l)
		var counting []api.Act
		for j, x := range l {
			if x.Kind != api.ActUndo && !slices.Contains(void, j) && !slices.Contains(undone, j) {
				counting = append(counting, x)
			}
		}
		wants(t, "Fold of those that count", of(keep.Fold(counting)), states, api.OK)
		wants(t, "Void of those that count", of(keep.Void(counting)), []int(nil), api.OK)
		x := (&dice{uint64(i)}).fill(api.Act{Office: 5, Number: 4, Day: 3}, 4, l)
		undo := api.Act{Office: 5, Number: 5, Day: 3, Kind: api.ActUndo, What: keep.Ref(x)}
		longer := append(clone(l), x)
		if now, _ := keep.Void(longer); x.Kind == api.ActUndo || slices.Contains(now, len(l)) {
			continue
		}
		wants(t, "Fold with an act and its undoing", of(keep.Fold(append(clone(longer), undo))), states, api.OK)
		wants(t, "Undone with its undoing", of(keep.Undone(append(clone(longer), undo))), append(slices.Clone(undone), len(l)), api.OK)
		over := api.Act{Office: 6, Number: 1, Day: 3, Kind: api.ActCrack, Faces: x.Faces[:1]}
		if all, _ := keep.Changes(longer, over); len(all) == 1 {
			wants(t, "Changes of an undoing of what lies below", of(keep.Changes(append(longer, over), undo)), []int(nil), api.OK)
		}
	}
}
