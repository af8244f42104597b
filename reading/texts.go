package reading

import (
	"strconv"
	"strings"

	"giornata/api"
)

// head is how many words of a line come first for each kind: the Id, Known, Reader, and the word of the kind.
const head = 4

// phrase is the word of a kind, how many numbers follow it, and how they are written and read.
type phrase struct {
	word  string
	count int
	write func(x api.Observation) []int
	read  func(numbers []int) (a, b, of int)
}

// phrases returns the phrase of each kind.
func phrases() map[uint8]phrase {
	writeThings := func(x api.Observation) []int { return []int{x.A, x.B} }
	readThings := func(numbers []int) (a, b, of int) { return numbers[0], numbers[1], 0 }
	writeId := func(x api.Observation) []int { return []int{x.Of} }
	readId := func(numbers []int) (a, b, of int) { return 0, 0, numbers[0] }
	return map[uint8]phrase{
		api.ObOver:  {"over", 2, writeThings, readThings},
		api.ObSame:  {"same", 2, writeThings, readThings},
		api.ObApart: {"apart", 2, writeThings, readThings},
		api.ObVoid:  {"void", 1, writeId, readId},
	}
}

// Write returns the line of an observation.
func Write(x api.Observation) (string, api.Errno) {
	if !isWellFormed(api.MaxThings, x) {
		return "", api.ErrArg
	}
	p := phrases()[x.Kind]
	words := []string{strconv.Itoa(x.Id), strconv.Itoa(x.Known), strconv.Itoa(x.Reader), p.word}
	for _, n := range p.write(x) {
		words = append(words, strconv.Itoa(n))
	}
	return strings.Join(words, " "), api.OK
}

// Parse returns the observation with a line.
func Parse(line string) (api.Observation, api.Errno) {
	words := strings.Split(line, " ")
	for kind, p := range phrases() {
		if len(words) != head+p.count || words[head-1] != p.word {
			continue
		}
		x := api.Observation{Id: number(words[0]), Known: number(words[1]), Reader: number(words[2]), Kind: kind}
		var follow []int
		for _, word := range words[head:] {
			follow = append(follow, number(word))
		}
		x.A, x.B, x.Of = p.read(follow)
		// A line with anything that no observation has is not the line of what was read.
		if written, e := Write(x); e == api.OK && written == line {
			return x, api.OK
		}
	}
	return api.Observation{}, api.ErrForm
}

// number returns the number that a word is, and some number for another word.
func number(word string) int {
	n, _ := strconv.Atoi(word)
	return n
}
