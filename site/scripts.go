package site

import (
	"slices"
	"strconv"
	"strings"

	"giornata/api"
)

// maxDigits is a limit of the chapter that package api does not name.
const maxDigits = 9

// wordSetup is the first word of the only lines that need no site.
const wordSetup = "setup"

// comment is what lines begin with that do nothing.
const comment = "#"

// session is the site of a script, and what was printed so far.
type session struct {
	strings.Builder
	site *Site
}

// action is what a line of a script does.
type action func(s *session)

// reader reads a script, a line after the other.
type reader struct {
	// lines are those that are not read yet.
	lines []string
	// number is that of the line that is read, and line all of it.
	number int
	line   string
	// rest is what is not read yet of the line; more says whether this is anything, even if it is empty.
	rest string
	more bool
}

// Run runs a script, and returns what it prints; otherwise the number of the first line that has no form.
func Run(script string) (string, int, api.Errno) {
	if len(script) > api.MaxScript {
		return "", 0, api.ErrLimit
	}
	r := &reader{lines: strings.Split(strings.TrimSuffix(script, "\n"), "\n")}
	actions, isScript := r.actions()
	if !isScript {
		return "", r.number, api.ErrForm
	}
	s := &session{}
	for _, act := range actions {
		act(s)
	}
	return s.String(), 0, api.OK
}

// actions returns what the lines do; false if one has no form.
func (r *reader) actions() (out []action, isScript bool) {
	defer func() {
		if recover() != nil {
			out, isScript = nil, false
		}
	}()
	known := forms()
	count := len(r.lines)
	for len(r.lines) > 0 {
		r.number = count - len(r.lines) + 1
		r.line, r.lines = r.lines[0], r.lines[1:]
		if r.line == "" || strings.HasPrefix(r.line, comment) {
			continue
		}
		r.rest, r.more = r.line, true
		word := r.word()
		if known[word] == nil {
			giveUp()
		}
		act := known[word](r)
		if r.more {
			giveUp()
		}
		if word != wordSetup {
			act = onSite(act)
		}
		out = append(out, act)
	}
	return out, true
}

// onSite returns an action that does nothing where there is no site.
func onSite(act action) action {
	return func(s *session) {
		if s.site == nil {
			s.print("none")
			return
		}
		act(s)
	}
}

// word returns the next word of the line.
func (r *reader) word() string {
	if !r.more {
		giveUp()
	}
	var word string
	word, r.rest, r.more = strings.Cut(r.rest, " ")
	return word
}

// all returns everything that is left of the line.
func (r *reader) all() string {
	if !r.more {
		giveUp()
	}
	r.more = false
	return r.rest
}

// figure returns the next word as a number.
func (r *reader) figure() int { return figureOf(r.word()) }

// signed returns the next word as a number that may have a minus sign.
func (r *reader) signed() int {
	word := r.word()
	digits, isMinus := strings.CutPrefix(word, "-")
	n := figureOf(digits)
	if !isMinus {
		return n
	}
	if n == 0 {
		giveUp()
	}
	return -n
}

// answer returns the next word as what it says, yes or no.
func (r *reader) answer() bool {
	n := r.figure()
	if n > bit(true) {
		giveUp()
	}
	return n == bit(true)
}

// following returns the next lines of the script, each with a line feed.
func (r *reader) following(count int) string {
	if count > len(r.lines) {
		giveUp()
	}
	var out strings.Builder
	for _, line := range r.lines[:count] {
		out.WriteString(line + "\n")
	}
	r.lines = r.lines[count:]
	return out.String()
}

// figureOf returns the number that a word is.
func figureOf(word string) int {
	isOther := func(c byte) bool { return !isDigit(c) }
	if len(word) < 1 || len(word) > maxDigits || slices.ContainsFunc([]byte(word), isOther) || word[0] == '0' && len(word) > 1 {
		giveUp()
	}
	n, _ := strconv.Atoi(word)
	return n
}
