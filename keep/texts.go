package keep

import (
	"strconv"
	"strings"

	"giornata/api"
)

// kindWords are the words of the kinds of acts.
var kindWords = [api.ActUndo + 1]string{
	api.ActCrack:   "crack",
	api.ActMend:    "mend",
	api.ActLoss:    "loss",
	api.ActRepaint: "repaint",
	api.ActRemove:  "remove",
	api.ActUndo:    "undo",
}

// noForm is what Read leaves a line with that is none.
type noForm struct{}

// Write returns the line of an act.
func Write(x api.Act) (string, api.Errno) {
	if !isValid(x) {
		return "", api.ErrArg
	}
	words := []string{strconv.Itoa(x.Office), strconv.Itoa(x.Number), strconv.Itoa(x.Day), kindWords[x.Kind]}
	if hasName(x.Kind) {
		words = append(words, x.Name)
	}
	if hasWhat(x.Kind) {
		words = append(words, strconv.Itoa(x.What))
	}
	for _, face := range x.Faces {
		words = append(words, strconv.Itoa(face))
	}
	return strings.Join(words, " "), api.OK
}

// Read returns the act with a line.
func Read(line string) (x api.Act, e api.Errno) {
	defer func() {
		if recover() != nil {
			x, e = api.Act{}, api.ErrForm
		}
	}()
	rest, more := line, true
	next := func() string {
		if !more {
			giveUp()
		}
		var word string
		word, rest, more = strings.Cut(rest, " ")
		return word
	}
	x.Office = number(next())
	x.Number = number(next())
	x.Day = number(next())
	x.Kind = kindOf(next())
	if hasName(x.Kind) {
		x.Name = next()
	}
	if hasWhat(x.Kind) {
		x.What = number(next())
	}
	for more && len(x.Faces) < api.MaxFaces {
		x.Faces = append(x.Faces, number(next()))
	}
	// A line with anything that no act has is not the line of what was read.
	if written, wrong := Write(x); wrong != api.OK || written != line {
		giveUp()
	}
	return x, api.OK
}

// giveUp leaves a line for Read, which recovers.
func giveUp() { panic(noForm{}) }

// number returns the number that a word is; it gives up if it is none.
func number(word string) int {
	n, err := strconv.Atoi(word)
	if err != nil {
		giveUp()
	}
	return n
}

// kindOf returns the kind with a word; it gives up if there is none. The empty word stands for the kind 0, which no valid act has.
func kindOf(word string) uint8 {
	for kind, other := range kindWords {
		if other == word {
			return uint8(kind)
		}
	}
	giveUp()
	return 0
}
