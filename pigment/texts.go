package pigment

import (
	"slices"
	"strconv"
	"strings"

	"giornata/api"
)

// head is how many words of a line come first for each kind: the Id, Known, and the word of the kind.
const head = 3

// phrase is the word of a kind, how many words follow it, and how they are written and read.
type phrase struct {
	word  string
	count int
	write func(r api.Rule) []string
	read  func(words []string) (x, y string, of int)
}

// phrases returns the phrase of each kind.
func phrases() [api.RuleVoid + 1]phrase {
	writeName := func(r api.Rule) []string { return []string{r.X} }
	readName := func(words []string) (x, y string, of int) { return words[0], "", 0 }
	writeNames := func(r api.Rule) []string { return []string{r.X, r.Y} }
	readNames := func(words []string) (x, y string, of int) { return words[0], words[1], 0 }
	writeId := func(r api.Rule) []string { return []string{strconv.Itoa(r.Of)} }
	readId := func(words []string) (x, y string, of int) { return "", "", number(words[0]) }
	return [api.RuleVoid + 1]phrase{
		api.RuleFast:   {"fast", 1, writeName, readName},
		api.RuleDry:    {"dry", 1, writeName, readName},
		api.RuleBeside: {"beside", 2, writeNames, readNames},
		api.RuleOver:   {"over", 2, writeNames, readNames},
		api.RuleGroup:  {"group", 2, writeNames, readNames},
		api.RuleVoid:   {"void", 1, writeId, readId},
	}
}

// Write returns the line of a rule.
func Write(r api.Rule) (string, api.Errno) {
	if !isWellFormed(r) {
		return "", api.ErrArg
	}
	p := phrases()[r.Kind]
	words := []string{strconv.Itoa(r.Id), strconv.Itoa(r.Known), p.word}
	return strings.Join(slices.Concat(words, p.write(r)), " "), api.OK
}

// Read returns the rule with a line.
func Read(line string) (api.Rule, api.Errno) {
	words := strings.Split(line, " ")
	// Each kind has words behind its own one; the empty phrase of the kind 0, which is none, is so never reached.
	if len(words) <= head {
		return api.Rule{}, api.ErrForm
	}
	for kind, p := range phrases() {
		if words[head-1] != p.word || len(words) != head+p.count {
			continue
		}
		r := api.Rule{Id: number(words[0]), Known: number(words[1]), Kind: uint8(kind)}
		r.X, r.Y, r.Of = p.read(words[head:])
		// A line with anything that no rule has is not the line of what was read.
		if written, e := Write(r); e == api.OK && written == line {
			return r, api.OK
		}
	}
	return api.Rule{}, api.ErrForm
}

// number returns the number that a word is, and some number for another word.
func number(word string) int {
	n, _ := strconv.Atoi(word)
	return n
}

// Parse returns the book of a source.
func Parse(src string) (b api.Book, fault api.Fault) {
	if len(src) > api.MaxSource {
		return api.Book{}, api.Fault{Err: api.ErrLimit}
	}
	defer func() {
		if left := recover(); left != nil {
			b, fault = api.Book{}, left.(api.Fault)
		}
	}()
	for i, line := range strings.Split(src, "\n") {
		if line == "" || line[0] == '#' {
			continue
		}
		r, e := Read(line)
		if e == api.OK {
			e = refusal(b.Rules, r)
		}
		if e != api.OK {
			giveUp(i+1, e)
		}
		b.Rules = append(b.Rules, r)
	}
	return b, api.Fault{}
}

// giveUp leaves a source for Parse, which recovers the fault.
func giveUp(line int, e api.Errno) { panic(api.Fault{Err: e, Line: line}) }

// Print returns the source of a book without comments.
func Print(b api.Book) string {
	if _, e := Check(b); e != api.OK {
		return ""
	}
	var out strings.Builder
	for _, r := range b.Rules {
		line, _ := Write(r)
		out.WriteString(line + "\n")
	}
	return out.String()
}
