package crew

import (
	"strconv"
	"strings"

	"giornata/api"
)

// The first words of the lines.
const (
	wordYard   = "yard"
	wordSeason = "season"
	wordClosed = "closed"
	wordPit    = "pit"
	wordMaster = "master"
)

// reader is the lines of a text that are not read yet.
type reader struct{ lines []string }

// noForm is what a reader leaves a text with that has no form.
type noForm struct{}

// WriteYard returns the text of a yard.
func WriteYard(y api.Yard) (string, api.Errno) {
	if e := CheckYard(y); e != api.OK {
		return "", e
	}
	var out strings.Builder
	write := func(words string, numbers ...int) {
		out.WriteString(words)
		for _, n := range numbers {
			out.WriteString(" " + strconv.Itoa(n))
		}
		out.WriteString("\n")
	}
	write(wordYard, y.Dry)
	for _, x := range y.Seasons {
		write(wordSeason, x.Light, x.Wet)
	}
	write(wordClosed, y.Closed...)
	for _, x := range y.Pits {
		write(wordPit, x.Slaked, x.Age, x.Batches)
	}
	for _, x := range y.Masters {
		write(wordMaster+" "+x.Name, x.From, x.Until, x.Skill)
	}
	return out.String(), api.OK
}

// ReadYard returns the yard with a text.
func ReadYard(text string) (y api.Yard, e api.Errno) {
	defer func() {
		left := recover()
		if _, is := left.(noForm); is {
			y, e = api.Yard{}, api.ErrForm
		} else if left != nil {
			panic(left)
		}
	}()
	r := &reader{strings.Split(text, "\n")}
	y = r.yard()
	// A text with anything that no yard has is not the text of what was read.
	if written, failed := WriteYard(y); failed != api.OK || written != text {
		giveUp()
	}
	return y, api.OK
}

// giveUp leaves a text for ReadYard, which recovers.
func giveUp() { panic(noForm{}) }

func (r *reader) yard() api.Yard {
	var y api.Yard
	y.Dry = numbers(r.line(wordYard, 1))[0]
	y.Seasons = r.seasons()
	y.Closed = numbers(r.line(wordClosed, 0))
	for r.isAt(wordPit) {
		n := numbers(r.line(wordPit, 3))
		y.Pits = append(y.Pits, api.Lime{Slaked: n[0], Age: n[1], Batches: n[2]})
	}
	for r.isAt(wordMaster) {
		words := r.line(wordMaster, 4)
		n := numbers(words[1:])
		y.Masters = append(y.Masters, api.Master{Name: words[0], From: n[0], Until: n[1], Skill: n[2]})
	}
	return y
}

func (r *reader) seasons() [seasonCount]api.Season {
	var out [seasonCount]api.Season
	for i := range out {
		n := numbers(r.line(wordSeason, 2))
		out[i] = api.Season{Light: n[0], Wet: n[1]}
	}
	return out
}

// isAt reports whether the next line begins with a word.
func (r *reader) isAt(word string) bool {
	if len(r.lines) == 0 {
		return false
	}
	first, _, _ := strings.Cut(r.lines[0], " ")
	return first == word
}

// line goes on behind the next line, and returns its words behind the first one. It gives up if this is another word, or if there are fewer than some others.
func (r *reader) line(word string, least int) []string {
	if !r.isAt(word) {
		giveUp()
	}
	words := strings.Split(r.lines[0], " ")[1:]
	r.lines = r.lines[1:]
	if len(words) < least {
		giveUp()
	}
	return words
}

// numbers returns the numbers that words are; it gives up if one is none.
func numbers(words []string) []int {
	var out []int
	for _, word := range words {
		n, err := strconv.Atoi(word)
		if err != nil {
			giveUp()
		}
		out = append(out, n)
	}
	return out
}
