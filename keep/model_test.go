package keep_test

import (
	"slices"

	"giornata/api"
	"giornata/keep"
)

// model carries out lists as the chapter says it: it keeps the list of those that count, and makes the state anew from it whenever it asks for it.
type model struct {
	acts                   []api.Act
	counting, void, undone []int
}

func modelOf(l []api.Act) *model {
	m := &model{acts: l}
	for i, x := range l {
		if x.Kind == api.ActUndo {
			m.undo(i, x.What)
		} else if isPossible(m.states(), x) {
			m.counting = append(m.counting, i)
		} else {
			m.void = append(m.void, i)
		}
	}
	slices.Sort(m.undone)
	return m
}

func (m *model) undo(at, what int) {
	for i, act := range m.counting {
		x := m.acts[act]
		if keep.Ref(x) != what {
			continue
		}
		for _, later := range m.counting[i+1:] {
			if slices.ContainsFunc(m.acts[later].Faces, func(face int) bool { return slices.Contains(x.Faces, face) }) {
				m.void = append(m.void, at)
				return
			}
		}
		m.counting = slices.Delete(slices.Clone(m.counting), i, i+1)
		m.undone = append(m.undone, act)
		return
	}
	m.void = append(m.void, at)
}

// states returns the states that those make that count.
func (m *model) states() []api.State {
	out := make([]api.State, 100)
	for _, act := range m.counting {
		x := m.acts[act]
		for _, face := range x.Faces {
			s := &out[face-1]
			switch x.Kind {
			case api.ActCrack:
				s.Cracked = true
			case api.ActMend:
				s.Cracked = false
			case api.ActLoss:
				s.Lost, s.Layers = true, nil
			case api.ActRepaint:
				s.Lost, s.Layers = false, append(s.Layers, api.Layer{Act: keep.Ref(x), Name: x.Name})
			case api.ActRemove:
				s.Layers = s.Layers[:len(s.Layers)-1]
			}
		}
	}
	return out
}

func isPossible(states []api.State, x api.Act) bool {
	for _, face := range x.Faces {
		s := states[face-1]
		n := len(s.Layers)
		possible := map[uint8]bool{
			api.ActCrack:   !s.Cracked,
			api.ActMend:    s.Cracked,
			api.ActLoss:    !s.Lost,
			api.ActRepaint: !s.Cracked,
			api.ActRemove:  n > 0 && s.Layers[n-1].Act == x.What,
		}
		if !possible[x.Kind] {
			return false
		}
	}
	return true
}

func (m *model) touching(face int) []int {
	var out []int
	for _, act := range m.counting {
		if slices.Contains(m.acts[act].Faces, face) {
			out = append(out, act)
		}
	}
	return out
}

// changed returns the faces with another state.
func changed(before, after []api.State) []int {
	var out []int
	for i := range after {
		if !same(before[i], after[i]) {
			out = append(out, i+1)
		}
	}
	return out
}
