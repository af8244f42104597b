package keep

import (
	"slices"

	"giornata/api"
)

// mostActs is how many acts a list that is carried out may have.
const mostActs = api.MaxOffices * api.MaxActs

// coat is a layer of a face, and those below it. Faces share coats, so none is ever changed.
type coat struct {
	layer api.Layer
	below *coat
}

// skin is the state of a face.
type skin struct {
	cracked, lost bool
	top           *coat
}

// trace is an act that counts, and what it found on a face.
type trace struct {
	act   int
	found skin
}

// wall is what acts of a list made, which were carried out one after the other.
type wall struct {
	acts  []api.Act
	steps map[uint8]func(s skin, x api.Act) (skin, bool)
	skins [api.MaxFaces]skin
	// traces has, for each face, the acts that count and have it; counting has all that count.
	traces       [api.MaxFaces][]trace
	counting     []int
	void, undone []int
}

// Void returns the acts of a list that are void.
func Void(l []api.Act) ([]int, api.Errno) {
	w, e := carriedOut(l)
	if e != api.OK {
		return nil, e
	}
	return w.void, api.OK
}

// Undone returns the acts of a list that are undone.
func Undone(l []api.Act) ([]int, api.Errno) {
	w, e := carriedOut(l)
	if e != api.OK {
		return nil, e
	}
	slices.Sort(w.undone)
	return w.undone, api.OK
}

// Fold returns the states of all faces.
func Fold(l []api.Act) ([]api.State, api.Errno) {
	w, e := carriedOut(l)
	if e != api.OK {
		return nil, e
	}
	return w.states(), api.OK
}

// Touching returns the acts that count at the end and have a face.
func Touching(l []api.Act, face int) ([]int, api.Errno) {
	w, e := carriedOut(l)
	if e != api.OK {
		return nil, e
	}
	if !isFace(face) {
		return nil, api.ErrArg
	}
	var out []int
	for _, t := range w.traces[face-1] {
		out = append(out, t.act)
	}
	return out, api.OK
}

// Changes returns the faces that an act behind those of a list changes.
func Changes(l []api.Act, x api.Act) ([]int, api.Errno) {
	w, e := carriedOut(slices.Concat(l, []api.Act{x}))
	if e != api.OK {
		return nil, e
	}
	after := w.states()
	before, _ := Fold(l)
	var out []int
	for i := range after {
		if !areAlike(before[i], after[i]) {
			out = append(out, i+1)
		}
	}
	return out, api.OK
}

func areAlike(a, b api.State) bool {
	return a.Cracked == b.Cracked && a.Lost == b.Lost && slices.Equal(a.Layers, b.Layers)
}

// carriedOut returns the wall that a list makes, or why it is none that can be carried out.
func carriedOut(l []api.Act) (*wall, api.Errno) {
	if len(l) > mostActs {
		return nil, api.ErrLimit
	}
	for _, x := range l {
		if e := CheckAct(x); e != api.OK {
			return nil, e
		}
	}
	w := &wall{acts: l, steps: map[uint8]func(s skin, x api.Act) (skin, bool){
		api.ActCrack:   skin.crack,
		api.ActMend:    skin.mend,
		api.ActLoss:    skin.lose,
		api.ActRepaint: skin.repaint,
		api.ActRemove:  skin.remove,
	}}
	for i := range l {
		w.carryOut(i)
	}
	return w, api.OK
}

func (w *wall) carryOut(act int) {
	x := w.acts[act]
	var done bool
	if x.Kind == api.ActUndo {
		done = w.undo(x.What)
	} else {
		done = w.do(act)
	}
	if !done {
		w.void = append(w.void, act)
	}
}

// do carries out an act on faces; false if it is not possible.
func (w *wall) do(act int) bool {
	x := w.acts[act]
	step := w.steps[x.Kind]
	for _, i := range x.Faces {
		if _, is := step(w.skins[i-1], x); !is {
			return false
		}
	}
	for _, i := range x.Faces {
		found := w.skins[i-1]
		w.traces[i-1] = append(w.traces[i-1], trace{act, found})
		w.skins[i-1], _ = step(found, x)
	}
	w.counting = append(w.counting, act)
	return true
}

// undo takes back the first act that counts with a reference; false if there is none, or another one lies on it.
func (w *wall) undo(what int) bool {
	at := slices.IndexFunc(w.counting, func(act int) bool { return Ref(w.acts[act]) == what })
	if at < 0 {
		return false
	}
	act := w.counting[at]
	for _, i := range w.acts[act].Faces {
		if w.last(i).act != act {
			return false
		}
	}
	for _, i := range w.acts[act].Faces {
		w.skins[i-1] = w.last(i).found
		w.traces[i-1] = w.traces[i-1][:len(w.traces[i-1])-1]
	}
	w.counting = slices.Delete(w.counting, at, at+1)
	w.undone = append(w.undone, act)
	return true
}

// last returns the last trace on a face that has one.
func (w *wall) last(i int) trace { return w.traces[i-1][len(w.traces[i-1])-1] }

func (w *wall) states() []api.State {
	var out []api.State
	for _, s := range w.skins {
		out = append(out, s.state())
	}
	return out
}

func (s skin) state() api.State {
	var layers []api.Layer
	for c := s.top; c != nil; c = c.below {
		layers = append(layers, c.layer)
	}
	slices.Reverse(layers)
	return api.State{Cracked: s.cracked, Lost: s.lost, Layers: layers}
}

// crack, mend, lose, repaint and remove return what an act makes of one of its faces; false if it is not possible there.
func (s skin) crack(api.Act) (skin, bool) {
	return skin{true, s.lost, s.top}, !s.cracked
}

func (s skin) mend(api.Act) (skin, bool) {
	return skin{false, s.lost, s.top}, s.cracked
}

func (s skin) lose(api.Act) (skin, bool) {
	return skin{s.cracked, true, nil}, !s.lost
}

func (s skin) repaint(x api.Act) (skin, bool) {
	return skin{s.cracked, false, &coat{api.Layer{Act: Ref(x), Name: x.Name}, s.top}}, !s.cracked
}

func (s skin) remove(x api.Act) (skin, bool) {
	if s.top == nil || s.top.layer.Act != x.What {
		return s, false
	}
	return skin{s.cracked, s.lost, s.top.below}, true
}
