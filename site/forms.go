package site

import "giornata/api"

// form reads what stands behind the first word of a line, and returns what the line does.
type form func(r *reader) action

// forms returns the forms of lines by their first words.
func forms() map[string]form {
	return map[string]form{
		wordSetup:  setup,
		"day":      ofFigure((*Site).Advance),
		"draw":     ofLines((*Site).Draw),
		"hire":     ofLines((*Site).Hire),
		"limits":   ofLine((*Site).Limit),
		"rule":     ofText((*Site).Rule),
		"observe":  ofText((*Site).Observe),
		"divide":   ofCost("divided", (*Site).Divide),
		"plan":     ofNothing("end", (*Site).Plan),
		"replan":   ofNothing("end", (*Site).Replan),
		"enter":    ofNothing("left", (*Site).Enter),
		"delay":    ofFigure((*Site).Delay),
		"lay":      ofStroke((*Site).Lay),
		"sign":     ofAct((*Site).Sign),
		"greet":    ofTwo((*Site).Greet),
		"carry":    ofThree((*Site).Carry),
		"lose":     ofThree((*Site).Lose),
		"repeat":   ofThree((*Site).Repeat),
		"stop":     ofTwo((*Site).Stop),
		"crash":    ofCrash((*Site).Crash),
		"pages":    question((*session).pages),
		"division": question((*session).division),
		"work":     question((*session).work),
		"strokes":  question((*session).strokes),
		"audit":    question((*session).audit),
		"register": ofOffice((*session).register),
		"wall":     ofOffice((*session).wall),
		"read":     read,
	}
}

func setup(r *reader) action {
	wanted := api.Setup{Offices: r.figure(), Sectors: r.figure()}
	return func(s *session) {
		made, e := New(wanted)
		if e == api.OK {
			s.site = made
		}
		s.printError(e)
	}
}

func read(r *reader) action {
	a, b := r.figure(), r.figure()
	return func(s *session) { s.read(a, b) }
}

// ofNothing is the form of a command without arguments that returns a number, which is printed behind a word, and ofCost that of one that returns a cost.
func ofNothing(word string, command func(s *Site) (int, api.Errno)) form {
	return func(*reader) action {
		return func(s *session) {
			n, e := command(s.site)
			s.printResult(e, word, n)
		}
	}
}

func ofCost(word string, command func(s *Site) (api.Cost, api.Errno)) form {
	return func(*reader) action {
		return func(s *session) {
			cost, e := command(s.site)
			s.printResult(e, word, cost.Days, cost.Seam)
		}
	}
}

// ofFigure, ofTwo and ofThree are the forms of commands with so many numbers.
func ofFigure(command func(s *Site, n int) api.Errno) form {
	return func(r *reader) action {
		n := r.figure()
		return func(s *session) { s.printError(command(s.site, n)) }
	}
}

func ofTwo(command func(s *Site, a, b int) api.Errno) form {
	return func(r *reader) action {
		a, b := r.figure(), r.figure()
		return func(s *session) { s.printError(command(s.site, a, b)) }
	}
}

func ofThree(command func(s *Site, a, b, c int) api.Errno) form {
	return func(r *reader) action {
		a, b, c := r.figure(), r.figure(), r.figure()
		return func(s *session) { s.printError(command(s.site, a, b, c)) }
	}
}

// ofText is the form of a command with everything behind the first blank, and ofLine that of one with the whole line.
func ofText(command func(s *Site, text string) api.Errno) form {
	return func(r *reader) action {
		text := r.all()
		return func(s *session) { s.printError(command(s.site, text)) }
	}
}

func ofLine(command func(s *Site, line string) api.Errno) form {
	return func(r *reader) action {
		r.all()
		line := r.line
		return func(s *session) { s.printError(command(s.site, line)) }
	}
}

// ofLines is the form of a command with the lines behind its own one.
func ofLines(command func(s *Site, text string) api.Errno) form {
	return func(r *reader) action {
		text := r.following(r.figure())
		return func(s *session) { s.printError(command(s.site, text)) }
	}
}

// ofStroke, ofAct and ofCrash are the forms of the commands with a stroke, with the line of an act, and with what a crash leaves.
func ofStroke(command func(s *Site, task int, wet bool, colour string) api.Errno) form {
	return func(r *reader) action {
		task, wet, colour := r.figure(), r.answer(), r.all()
		return func(s *session) { s.printError(command(s.site, task, wet, colour)) }
	}
}

func ofAct(command func(s *Site, number int, line string) api.Errno) form {
	return func(r *reader) action {
		number, line := r.figure(), r.all()
		return func(s *session) { s.printError(command(s.site, number, line)) }
	}
}

func ofCrash(command func(s *Site, number int, kept []int) api.Errno) form {
	return func(r *reader) action {
		number := r.figure()
		var kept []int
		for r.more {
			kept = append(kept, r.signed())
		}
		return func(s *session) { s.printError(command(s.site, number, kept)) }
	}
}

// question is the form of a question without arguments, and ofOffice that of one about an office.
func question(ask func(s *session)) form {
	return func(*reader) action { return ask }
}

func ofOffice(ask func(s *session, number int)) form {
	return func(r *reader) action {
		number := r.figure()
		return func(s *session) { ask(s, number) }
	}
}
