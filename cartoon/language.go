package cartoon

import (
	"slices"
	"strconv"
	"strings"

	"giornata/api"
)

// The first words of the lines.
const (
	wordWall   = "wall"
	wordSeam   = "seam"
	wordNever  = "never"
	wordGround = "ground"
)

const maxDigits = 9

// reader is the cartoon of the lines so far, the number of a line, and the words of it that are not read yet.
type reader struct {
	c     api.Cartoon
	line  int
	words []string
}

// Parse returns the cartoon of a source.
func Parse(src string) (c api.Cartoon, fault api.Fault) {
	if len(src) > api.MaxSource {
		return api.Cartoon{}, api.Fault{Err: api.ErrLimit}
	}
	defer func() {
		if left := recover(); left != nil {
			c, fault = api.Cartoon{}, left.(api.Fault)
		}
	}()
	r := &reader{}
	read := map[string]func(){wordWall: r.wall, wordSeam: r.seam, wordNever: r.never, wordGround: r.ground}
	for i, text := range strings.Split(src, "\n") {
		r.line, r.words = i+1, wordsOf(text)
		if len(r.words) == 0 {
			continue
		}
		first := r.word()
		// Exactly the first line is the wall, which has at least one point.
		if read[first] == nil || (first == wordWall) != (len(r.c.Wall) == 0) {
			r.giveUp(api.ErrForm)
		}
		read[first]()
		// The lines before have no error, so what Check finds is due to this one.
		if e := Check(r.c); e != api.OK {
			r.giveUp(e)
		}
	}
	if len(r.c.Wall) == 0 {
		r.line = 0
		r.giveUp(api.ErrForm)
	}
	return r.c, api.Fault{}
}

// wordsOf returns the words of a line without its comment.
func wordsOf(text string) []string {
	text, _, _ = strings.Cut(text, "#")
	return strings.FieldsFunc(text, func(r rune) bool { return r == ' ' })
}

// giveUp leaves the reading for Parse, which recovers the fault.
func (r *reader) giveUp(e api.Errno) { panic(api.Fault{Err: e, Line: r.line}) }

func (r *reader) wall() { r.c.Wall = r.gather(r.numbers()...) }

func (r *reader) seam() {
	name, price := r.name(), r.number()
	r.c.Lines = append(r.c.Lines, api.Line{Name: name, Kind: api.LineSeam, Price: price, Chain: r.gather(r.numbers()...)})
}

func (r *reader) never() {
	name := r.name()
	r.c.Lines = append(r.c.Lines, api.Line{Name: name, Kind: api.LineNever, Chain: r.gather(r.numbers()...)})
}

func (r *reader) ground() {
	name, work := r.name(), r.number()
	at := r.gather(r.number(), r.number())
	var colours []string
	for len(r.words) > 0 {
		colours = append(colours, r.name())
	}
	r.c.Grounds = append(r.c.Grounds, api.Ground{Name: name, At: at[0], Work: work, Colours: colours})
}

// gather returns the points of coordinates, at least one of them.
func (r *reader) gather(coordinates ...int) []api.Point {
	if len(coordinates) == 0 || len(coordinates)%2 != 0 {
		r.giveUp(api.ErrForm)
	}
	var out []api.Point
	for i := 1; i < len(coordinates); i += 2 {
		out = append(out, api.Point{X: coordinates[i-1], Y: coordinates[i]})
	}
	return out
}

func (r *reader) word() string {
	if len(r.words) == 0 {
		r.giveUp(api.ErrForm)
	}
	word := r.words[0]
	r.words = r.words[1:]
	return word
}

func (r *reader) name() string {
	word := r.word()
	if !isName(word) {
		r.giveUp(api.ErrForm)
	}
	return word
}

func (r *reader) number() int {
	word := r.word()
	if !isNumber(word) {
		r.giveUp(api.ErrForm)
	}
	n, _ := strconv.Atoi(word)
	return n
}

// numbers returns the numbers up to the end of a line.
func (r *reader) numbers() []int {
	var out []int
	for len(r.words) > 0 {
		out = append(out, r.number())
	}
	return out
}

func isNumber(s string) bool {
	if len(s) < 1 || len(s) > maxDigits || (s[0] == '0' && len(s) > 1) {
		return false
	}
	for i := range len(s) {
		if !isDigit(s[i]) {
			return false
		}
	}
	return true
}

// Print returns a source for a cartoon.
func Print(c api.Cartoon) string {
	if Check(c) != api.OK {
		return ""
	}
	var out strings.Builder
	row := func(head []string, tail []string) {
		out.WriteString(strings.Join(slices.Concat(head, tail), " ") + "\n")
	}
	row([]string{wordWall}, coordinates(c.Wall...))
	for _, l := range c.Lines {
		if l.Kind == api.LineSeam {
			row([]string{wordSeam, l.Name, strconv.Itoa(l.Price)}, coordinates(l.Chain...))
		} else {
			row([]string{wordNever, l.Name}, coordinates(l.Chain...))
		}
	}
	for _, g := range c.Grounds {
		head := []string{wordGround, g.Name, strconv.Itoa(g.Work)}
		row(append(head, coordinates(g.At)...), g.Colours)
	}
	return out.String()
}

func coordinates(l ...api.Point) []string {
	var out []string
	for _, p := range l {
		out = append(out, strconv.Itoa(p.X), strconv.Itoa(p.Y))
	}
	return out
}
