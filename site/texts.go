package site

import (
	"slices"
	"strconv"
	"strings"

	"giornata/api"
)

// The first words of the lines.
const (
	wordPage   = "page"
	wordPrev   = "prev"
	wordWork   = "work"
	wordOrder  = "order"
	wordTurn   = "turn"
	wordStroke = "stroke"
)

// noForm is what a reader leaves a text with that has no form.
type noForm struct{}

// PutWork returns the text of a work.
func PutWork(w api.Work) (string, api.Errno) {
	if !isWork(w) {
		return "", api.ErrArg
	}
	var out strings.Builder
	out.WriteString(lineOf(wordWork, w.Done) + "\n")
	out.WriteString(lineOf(wordOrder, w.Order...) + "\n")
	for _, x := range w.Plan.Turns {
		out.WriteString(lineOf(wordTurn, x.Day, x.Pit, x.Master) + "\n")
	}
	return out.String(), api.OK
}

// GetWork returns the work with a text.
func GetWork(s string) (api.Work, api.Errno) {
	return readText(s, PutWork, func() api.Work {
		lines := strings.Split(s, "\n")
		// Two lines, and nothing behind the last line feed.
		if len(lines) < 3 {
			giveUp()
		}
		w := api.Work{Order: numbersOf(lines[1])}
		w.Done = few(lines[0], 1)[0]
		for _, line := range lines[2 : len(lines)-1] {
			n := few(line, 3)
			w.Plan.Turns = append(w.Plan.Turns, api.Turn{Day: n[0], Pit: n[1], Master: n[2]})
		}
		return w
	})
}

// PutStroke returns the line of a stroke.
func PutStroke(x api.Stroke) (string, api.Errno) {
	if !isStroke(x) {
		return "", api.ErrArg
	}
	return lineOf(wordStroke, x.Task, x.Day, bit(x.Wet)) + " " + x.Colour, api.OK
}

// GetStroke returns the stroke with a line.
func GetStroke(s string) (api.Stroke, api.Errno) {
	return readText(s, PutStroke, func() api.Stroke {
		at := strings.LastIndex(s, " ")
		if at < 0 {
			giveUp()
		}
		n := few(s[:at], 3)
		return api.Stroke{Task: n[0], Day: n[1], Wet: n[2] == bit(true), Colour: s[at+1:]}
	})
}

// readText returns what read makes of a text, with ErrForm if read gives up, or if exactly this text is not put for it.
func readText[T any](text string, put func(T) (string, api.Errno), read func() T) (out T, e api.Errno) {
	defer func() {
		if recover() != nil {
			var none T
			out, e = none, api.ErrForm
		}
	}()
	out = read()
	if again, failed := put(out); failed != api.OK || again != text {
		giveUp()
	}
	return out, api.OK
}

// giveUp leaves a text that has no form for whoever recovers.
func giveUp() { panic(noForm{}) }

// lineOf returns a line of a word and of numbers, without a line feed.
func lineOf(word string, numbers ...int) string {
	words := []string{word}
	for _, n := range numbers {
		words = append(words, strconv.Itoa(n))
	}
	return strings.Join(words, " ")
}

// numbersOf returns the numbers behind the first word of a line.
func numbersOf(line string) []int {
	var out []int
	for _, word := range strings.Split(line, " ")[1:] {
		n, err := strconv.Atoi(word)
		if err != nil {
			giveUp()
		}
		out = append(out, n)
	}
	return out
}

// few returns the numbers behind the first word of a line that has so many.
func few(line string, count int) []int {
	out := numbersOf(line)
	if len(out) != count {
		giveUp()
	}
	return out
}

// bit returns the number by which a text says whether something is so.
func bit(is bool) int {
	if is {
		return 1
	}
	return 0
}

func isWork(w api.Work) bool {
	n := len(w.Order)
	if n > api.MaxTasks || len(w.Plan.Turns) != n || !isWithin(w.Done, 0, n) {
		return false
	}
	for i := range n {
		if !slices.Contains(w.Order, i) {
			return false
		}
	}
	return !slices.ContainsFunc(w.Plan.Turns, func(x api.Turn) bool { return !isTurn(x) })
}

func isTurn(x api.Turn) bool {
	return isDay(x.Day) && isWithin(x.Pit, 0, api.MaxPits-1) && isWithin(x.Master, 0, api.MaxMasters-1)
}

func isStroke(x api.Stroke) bool {
	return isWithin(x.Task, 0, api.MaxTasks-1) && isDay(x.Day) && isName(x.Colour)
}

func isDay(n int) bool { return isWithin(n, 0, api.MaxDay) }

func isWithin(n, least, greatest int) bool { return n >= least && n <= greatest }

func isName(s string) bool {
	if len(s) < 1 || len(s) > api.MaxName || !isLetter(s[0]) {
		return false
	}
	for i := range len(s) {
		if !isLetter(s[i]) && !isDigit(s[i]) && s[i] != '-' {
			return false
		}
	}
	return true
}

func isLetter(c byte) bool { return c >= 'a' && c <= 'z' }

func isDigit(c byte) bool { return c >= '0' && c <= '9' }
