package site

import (
	"strconv"

	"giornata/api"
	"giornata/days"
	"giornata/keep"
)

// print prints a line.
func (s *session) print(line string) { s.WriteString(line + "\n") }

// printError prints how a command ended.
func (s *session) printError(e api.Errno) {
	if e != api.OK {
		s.print(lineOf("error", int(e)))
		return
	}
	s.print("ok")
}

// printResult prints a word and numbers, or an error in their place.
func (s *session) printResult(e api.Errno, word string, numbers ...int) {
	if e != api.OK {
		s.printError(e)
		return
	}
	s.print(lineOf(word, numbers...))
}

func (s *session) pages() {
	l := s.site.Pages()
	s.print(lineOf("pages", len(l)))
	for _, p := range l {
		text, _ := PutPage(p)
		s.print(lineOf(wordPage, len(text)))
		s.print(text)
	}
}

func (s *session) division() {
	d := s.site.dossier.account.Division
	s.print(lineOf("patches", len(d.Patches)))
	text, _ := days.Write(d)
	s.WriteString(text)
}

func (s *session) work() {
	a := &s.site.dossier.account
	s.print(lineOf("tasks", len(a.Work.Order)))
	if !a.has(api.HasWork) {
		return
	}
	text, _ := PutWork(a.Work)
	s.WriteString(text)
}

func (s *session) strokes() {
	l := s.site.dossier.account.Strokes
	s.print(lineOf("strokes", len(l)))
	for _, x := range l {
		line, _ := PutStroke(x)
		s.print(line)
	}
}

func (s *session) register(number int) {
	l := s.site.Register(number)
	s.print(lineOf("acts", len(l)))
	for _, x := range l {
		line, _ := keep.Write(x)
		s.print(line)
	}
}

func (s *session) wall(number int) {
	for i, x := range s.site.Wall(number) {
		if !x.Cracked && !x.Lost && len(x.Layers) == 0 {
			continue
		}
		s.print(lineOf("face", i+1, bit(x.Cracked), bit(x.Lost), len(x.Layers)))
		for _, layer := range x.Layers {
			s.print("layer " + strconv.Itoa(layer.Act) + " " + layer.Name)
		}
	}
	s.print("wall")
}

func (s *session) read(a, b int) {
	kind, ids, e := s.site.Read(a, b)
	s.printResult(e, "read", append([]int{int(kind)}, ids...)...)
}

func (s *session) audit() {
	f := s.site.Audit()
	s.print(lineOf("audit", bit(f.Ok), f.At, int(f.What)))
}
