package days

import (
	"strconv"
	"strings"

	"giornata/api"
)

// The first words of the lines.
const (
	wordDay    = "day"
	wordLimits = "limits"
)

// Write returns the text of a division.
func Write(d api.Division) (string, api.Errno) {
	d, e := Normal(d)
	if e != api.OK {
		return "", e
	}
	var out strings.Builder
	for _, patch := range d.Patches {
		out.WriteString(line(wordDay, patch) + "\n")
	}
	return out.String(), api.OK
}

// Read returns the division with a text.
func Read(text string) (api.Division, api.Errno) {
	return reading(text, Write, func() api.Division {
		var d api.Division
		for row := range strings.Lines(text) {
			d.Patches = append(d.Patches, numbers(strings.TrimSuffix(row, "\n")))
		}
		return d
	})
}

// WriteLimits returns the line of limits.
func WriteLimits(l api.Limits) (string, api.Errno) {
	if e := CheckLimits(l); e != api.OK {
		return "", e
	}
	out := []int{l.Minutes}
	for _, x := range l.Stages {
		out = append(out, x.From, x.To)
	}
	return line(wordLimits, out), api.OK
}

// ReadLimits returns the limits with a line.
func ReadLimits(line string) (api.Limits, api.Errno) {
	return reading(line, WriteLimits, func() api.Limits {
		l := numbers(line)
		if len(l)%2 == 0 {
			giveUp()
		}
		out := api.Limits{Minutes: l[0]}
		for i := 2; i < len(l); i += 2 {
			out.Stages = append(out.Stages, api.Stage{From: l[i-1], To: l[i]})
		}
		return out
	})
}

// line returns a line of a word and of numbers.
func line(word string, numbers []int) string {
	words := []string{word}
	for _, n := range numbers {
		words = append(words, strconv.Itoa(n))
	}
	return strings.Join(words, " ")
}

// reading returns what read makes of a text, with ErrForm if read gives up, or if exactly this text is not written for it.
func reading[T any](text string, write func(T) (string, api.Errno), read func() T) (out T, e api.Errno) {
	defer func() {
		if recover() != nil {
			var none T
			out, e = none, api.ErrForm
		}
	}()
	out = read()
	if written, failed := write(out); failed != api.OK || written != text {
		giveUp()
	}
	return out, api.OK
}

// giveUp leaves a text that has no form for reading, which recovers.
func giveUp() { panic(api.ErrForm) }

// numbers returns the numbers behind the first word of a line.
func numbers(line string) []int {
	var out []int
	for _, word := range strings.Split(line, " ")[1:] {
		n, err := strconv.Atoi(word)
		if err != nil {
			giveUp()
		}
		out = append(out, n)
	}
	return out
}
