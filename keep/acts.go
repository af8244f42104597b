package keep

import (
	"cmp"
	"slices"

	"giornata/api"
)

// CheckAct returns ErrArg for an act that is not valid.
func CheckAct(x api.Act) api.Errno {
	if !isValid(x) {
		return api.ErrArg
	}
	return api.OK
}

// Ref returns the reference of an act.
func Ref(x api.Act) int { return api.MaxOffices*x.Number + x.Office }

func isValid(x api.Act) bool {
	if !isOffice(x.Office) || !isNumber(x.Number) || x.Day < 0 || x.Day > api.MaxDay {
		return false
	}
	if x.Kind < api.ActCrack || x.Kind > api.ActUndo {
		return false
	}
	return hasRightFaces(x) && hasRightName(x) && hasRightWhat(x)
}

func hasRightFaces(x api.Act) bool {
	if !hasFaces(x.Kind) {
		return len(x.Faces) == 0
	}
	for i, face := range x.Faces {
		if !isFace(face) || i > 0 && x.Faces[i-1] >= face {
			return false
		}
	}
	return len(x.Faces) > 0
}

func hasRightName(x api.Act) bool {
	if !hasName(x.Kind) {
		return x.Name == ""
	}
	return isName(x.Name)
}

func hasRightWhat(x api.Act) bool {
	if !hasWhat(x.Kind) {
		return x.What == 0
	}
	return isNumber(x.What/api.MaxOffices) && x.What != Ref(x)
}

// hasFaces, hasName and hasWhat report which fields the acts of a kind have.
func hasFaces(kind uint8) bool { return kind != api.ActUndo }

func hasName(kind uint8) bool { return kind == api.ActRepaint }

func hasWhat(kind uint8) bool { return kind == api.ActRemove || kind == api.ActUndo }

func isOffice(n int) bool { return n >= 0 && n < api.MaxOffices }

func isNumber(n int) bool { return n >= 1 && n <= api.MaxActs }

func isFace(n int) bool { return n >= 1 && n <= api.MaxFaces }

func isName(s string) bool {
	if len(s) == 0 || len(s) > api.MaxName || !isLetter(s[0]) {
		return false
	}
	for i := range len(s) {
		if !isLetter(s[i]) && !isDigit(s[i]) && s[i] != '-' {
			return false
		}
	}
	return true
}

func isLetter(b byte) bool { return b >= 'a' && b <= 'z' }

func isDigit(b byte) bool { return b >= '0' && b <= '9' }

// compareByDay compares acts as a register has them.
func compareByDay(x, y api.Act) int {
	return cmp.Or(cmp.Compare(x.Day, y.Day), compareByOffice(x, y))
}

// compareByOffice compares acts as a letter has them.
func compareByOffice(x, y api.Act) int {
	return cmp.Or(cmp.Compare(x.Office, y.Office), cmp.Compare(x.Number, y.Number))
}

func areEqual(x, y api.Act) bool {
	return compareByDay(x, y) == 0 && x.Kind == y.Kind && slices.Equal(x.Faces, y.Faces) && x.Name == y.Name && x.What == y.What
}

// copied returns an act with memory of its own.
func copied(x api.Act) api.Act {
	x.Faces = slices.Clone(x.Faces)
	return x
}

// copiesOf returns the acts of a list of which something is so, with memory of their own.
func copiesOf(l []api.Act, is func(x api.Act) bool) []api.Act {
	var out []api.Act
	for _, x := range l {
		if is(x) {
			out = append(out, copied(x))
		}
	}
	return out
}
