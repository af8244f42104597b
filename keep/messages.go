package keep

import (
	"strconv"
	"strings"

	"giornata/api"
)

// The first words of messages.
const (
	wordHave = "have"
	wordActs = "acts"
)

// message is what one keeper tells another one.
type message interface{ text() string }

// greeting is what a keeper has.
type greeting api.Stock

// letter is acts.
type letter []api.Act

func (g greeting) text() string {
	var out strings.Builder
	out.WriteString(wordHave)
	for _, n := range g.Have {
		out.WriteString(" " + strconv.Itoa(n))
	}
	out.WriteString("\n")
	return out.String()
}

// text returns the text of a letter whose acts are valid.
func (l letter) text() string {
	var out strings.Builder
	out.WriteString(wordActs + " " + strconv.Itoa(len(l)) + "\n")
	for _, x := range l {
		line, _ := Write(x)
		out.WriteString(line + "\n")
	}
	return out.String()
}

// readMessage returns the message with a text; nil if there is none.
func readMessage(text string) message {
	// A text with anything that no message has is not the text of what was read.
	if g, is := readGreeting(text); is && g.text() == text {
		return g
	}
	if l, is := readLetter(text); is && l.text() == text {
		return l
	}
	return nil
}

// readGreeting returns the greeting that a text may be.
func readGreeting(text string) (greeting, bool) {
	var g greeting
	words := strings.SplitN(strings.TrimSuffix(text, "\n"), " ", len(g.Have)+2)
	if len(words) != len(g.Have)+1 {
		return greeting{}, false
	}
	for i, word := range words[1:] {
		n, err := strconv.Atoi(word)
		if err != nil {
			return greeting{}, false
		}
		g.Have[i] = n
	}
	return g, isStock(api.Stock(g))
}

// readLetter returns the letter that a text may be.
func readLetter(text string) (letter, bool) {
	lines := strings.SplitN(text, "\n", api.MaxBatch+3)
	if len(lines) < 3 || len(lines) > api.MaxBatch+2 {
		return nil, false
	}
	var l letter
	// The first line tells how many acts there are, and nothing is behind the last line feed.
	for _, line := range lines[1 : len(lines)-1] {
		x, e := Read(line)
		if e != api.OK {
			return nil, false
		}
		l = append(l, x)
	}
	return l, areInOrder(l)
}

// areInOrder reports whether acts are in strictly increasing order of (Office, Number).
func areInOrder(l []api.Act) bool {
	for i := 1; i < len(l); i++ {
		if compareByOffice(l[i-1], l[i]) >= 0 {
			return false
		}
	}
	return true
}
