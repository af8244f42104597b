package keep_test

import (
	"strings"
	"testing"

	"giornata/api"
	"giornata/keep"
)

// with returns an act with some of its fields changed.
func with(x api.Act, change func(x *api.Act)) api.Act {
	change(&x)
	return x
}

// validActs have fields at the limits of what is valid.
func validActs() []api.Act {
	long := strings.Repeat("a", 24)
	return []api.Act{
		act("0 1 0 crack 1"),
		act("7 500 100000 crack 100"),
		act("3 20 77 mend 1 2 3 50 99"),
		act("0 1 5 loss 1 2"),
		act("1 1 5 repaint blue 1"),
		act("1 1 5 repaint a 1 100"),
		act("1 1 5 repaint z-0-9-a- 7"),
		act("1 1 5 repaint " + long + " 7"),
		act("1 1 5 remove 8 1"),
		act("1 1 5 remove 4007 2 3"),
		act("0 1 5 undo 9"),
		act("1 1 5 undo 8"),
		act("7 499 5 undo 4007"),
		{Office: 2, Number: 3, Day: 4, Kind: api.ActCrack, Faces: from(1, 100)},
		{Office: 7, Number: 500, Day: 100000, Kind: api.ActRepaint, Faces: from(1, 100), Name: long},
		{Office: 2, Number: 3, Day: 4, Kind: api.ActUndo, What: 8, Faces: []int{}},
	}
}

// invalidActs are those in which one thing is not as it has to be.
func invalidActs() []api.Act {
	crack, repaint, remove, undo := act("1 2 3 crack 1 2"), act("1 2 3 repaint blue 1 2"), act("1 2 3 remove 8 1 2"), act("1 2 3 undo 8")
	out := []api.Act{{}}
	for _, x := range []api.Act{crack, repaint, remove, undo} {
		for _, n := range p(-1, 8, huge, tiny) {
			out = append(out, with(x, func(x *api.Act) { x.Office = n }))
		}
		for _, n := range p(0, -1, 501, huge, tiny) {
			out = append(out, with(x, func(x *api.Act) { x.Number = n }))
		}
		for _, n := range p(-1, 100001, huge, tiny) {
			out = append(out, with(x, func(x *api.Act) { x.Day = n }))
		}
		for _, kind := range []uint8{0, 7, 8, 128, 255} {
			out = append(out, with(x, func(x *api.Act) { x.Kind = kind }))
		}
	}
	for _, kind := range []uint8{api.ActCrack, api.ActMend, api.ActLoss} {
		out = append(out, with(crack, func(x *api.Act) { x.Kind, x.Name = kind, "blue" }), with(crack, func(x *api.Act) { x.Kind, x.What = kind, 8 }), with(crack, func(x *api.Act) { x.Kind, x.What = kind, -1 }))
	}
	for _, faces := range [][]int{nil, {}, {0}, {-1}, {101}, {1, 1}, {2, 1}, {1, 2, 2}, {1, 3, 2}, {0, 1}, {99, 100, 101}, {tiny, 1}, {1, huge}, from(0, 100), from(1, 101)} {
		for _, kind := range []uint8{api.ActCrack, api.ActMend, api.ActLoss} {
			out = append(out, with(crack, func(x *api.Act) { x.Kind, x.Faces = kind, faces }))
		}
		out = append(out, with(repaint, func(x *api.Act) { x.Faces = faces }), with(remove, func(x *api.Act) { x.Faces = faces }))
	}
	for _, name := range []string{"", "Blue", "9blue", "-blue", "blue ", " blue", "bl ue", "blu\xe9", "blue\n", "blue_red", "blue/", "blue:", "blue`", "blue{", strings.Repeat("a", 25)} {
		out = append(out, with(repaint, func(x *api.Act) { x.Name = name }))
	}
	for _, what := range p(0, 1, 7, -8, -9, 4008, 17, huge, tiny) {
		out = append(out, with(remove, func(x *api.Act) { x.What = what }), with(undo, func(x *api.Act) { x.What = what }))
	}
	return append(out,
		with(repaint, func(x *api.Act) { x.What = 8 }),
		with(remove, func(x *api.Act) { x.Name = "blue" }),
		with(undo, func(x *api.Act) { x.Name = "blue" }),
		with(undo, func(x *api.Act) { x.Faces = p(1) }),
	)
}

// J1: which acts are valid.
func TestCheckAct(t *testing.T) {
	for _, x := range validActs() {
		if e := keep.CheckAct(x); e != api.OK {
			t.Errorf("CheckAct of %v: error %d", x, e)
		}
	}
	for _, x := range invalidActs() {
		if e := keep.CheckAct(x); e != api.ErrArg {
			t.Errorf("CheckAct of %v: error %d", x, e)
		}
	}
}

// J1: references.
func TestRef(t *testing.T) {
	for _, x := range []struct{ office, number, ref int }{{0, 1, 8}, {7, 500, 4007}, {1, 2, 17}, {0, 3, 24}, {0, 0, 0}, {-1, 0, -1}, {9, -2, -7}, {100, 1000, 8100}} {
		want(t, "Ref", keep.Ref(api.Act{Office: x.office, Number: x.number, Day: 5, Kind: 9, What: 77}), x.ref)
	}
}
