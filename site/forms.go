package site

import "giornata/api"

// form reads what stands behind the first word of a line, and returns what the line does.
type form func(r *reader) action

// forms returns the forms of lines by their first words.
func forms() map[string]form {
	return map[string]form{
		wordSetup:  setup,
		"day":      ofFigure((*Site).Advance),
		"draw":     ofLines((*Site).Draw),
		"hire":     ofLines((*Site).Hire),
		"limits":   limits,
		"rule":     ofText((*Site).Rule),
		"observe":  ofText((*Site).Observe),
		"divide":   divide,
		"plan":     ofNothing("end", (*Site).Plan),
		"replan":   ofNothing("end", (*Site).Replan),
		"enter":    ofNothing("left", (*Site).Enter),
		"delay":    ofFigure((*Site).Delay),
		"lay":      lay,
		"sign":     sign,
		"greet":    ofTwo((*Site).Greet),
		"carry":    ofThree((*Site).Carry),
		"lose":     ofThree((*Site).Lose),
		"repeat":   ofThree((*Site).Repeat),
		"stop":     ofTwo((*Site).Stop),
		"crash":    crash,
		"pages":    question((*session).pages),
		"division": question((*session).division),
		"work":     question((*session).work),
		"strokes":  question((*session).strokes),
		"audit":    question((*session).audit),
		"register": ofOffice((*session).register),
		"wall":     ofOffice((*session).wall),
		"read":     read,
	}
}

func setup(r *reader) action {
	wanted := api.Setup{Offices: r.figure(), Sectors: r.figure()}
	return func(s *session) {
		made, e := New(wanted)
		if e == api.OK {
			s.site = made
		}
		s.printError(e)
	}
}

func limits(r *reader) action {
	r.all()
	line := r.line
	return func(s *session) { s.printError(s.site.Limit(line)) }
}

func divide(*reader) action {
	return func(s *session) {
		cost, e := s.site.Divide()
		s.printResult(e, "divided", cost.Days, cost.Seam)
	}
}

func lay(r *reader) action {
	task, wet := r.figure(), r.answer()
	colour := r.all()
	return func(s *session) { s.printError(s.site.Lay(task, wet, colour)) }
}

func sign(r *reader) action {
	number := r.figure()
	line := r.all()
	return func(s *session) { s.printError(s.site.Sign(number, line)) }
}

func crash(r *reader) action {
	number := r.figure()
	var kept []int
	for r.more {
		kept = append(kept, r.signed())
	}
	return func(s *session) { s.printError(s.site.Crash(number, kept)) }
}

func read(r *reader) action {
	a, b := r.figure(), r.figure()
	return func(s *session) { s.read(a, b) }
}

// ofNothing is the form of a command without arguments that returns a number, which is printed behind a word.
func ofNothing(word string, command func(s *Site) (int, api.Errno)) form {
	return func(*reader) action {
		return func(s *session) {
			n, e := command(s.site)
			s.printResult(e, word, n)
		}
	}
}

// ofFigure, ofTwo and ofThree are the forms of commands with so many numbers.
func ofFigure(command func(s *Site, n int) api.Errno) form {
	return func(r *reader) action {
		n := r.figure()
		return func(s *session) { s.printError(command(s.site, n)) }
	}
}

func ofTwo(command func(s *Site, a, b int) api.Errno) form {
	return func(r *reader) action {
		a, b := r.figure(), r.figure()
		return func(s *session) { s.printError(command(s.site, a, b)) }
	}
}

func ofThree(command func(s *Site, a, b, c int) api.Errno) form {
	return func(r *reader) action {
		a, b, c := r.figure(), r.figure(), r.figure()
		return func(s *session) { s.printError(command(s.site, a, b, c)) }
	}
}

// ofText is the form of a command with everything behind the first blank.
func ofText(command func(s *Site, text string) api.Errno) form {
	return func(r *reader) action {
		text := r.all()
		return func(s *session) { s.printError(command(s.site, text)) }
	}
}

// ofLines is the form of a command with the lines behind its own one.
func ofLines(command func(s *Site, text string) api.Errno) form {
	return func(r *reader) action {
		text := r.following(r.figure())
		return func(s *session) { s.printError(command(s.site, text)) }
	}
}

// question is the form of a question without arguments, and ofOffice that of one about an office.
func question(ask func(s *session)) form {
	return func(*reader) action { return ask }
}

func ofOffice(ask func(s *session, number int)) form {
	return func(r *reader) action {
		number := r.figure()
		return func(s *session) { ask(s, number) }
	}
}
