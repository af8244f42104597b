package site

import (
	"slices"
	"strconv"

	"giornata/api"
	"giornata/keep"
)

// leastSectors is a limit of the chapter that package api does not name.
const leastSectors = 1000

// office is a keeper, and the disk on which it was started.
type office struct {
	*keep.Keeper
	disk *keep.Disk
}

// office returns an office.
func (s *Site) office(number int) (*office, api.Errno) {
	if s == nil {
		return nil, api.ErrNil
	}
	if !isWithin(number, 0, len(s.offices)-1) {
		return nil, api.ErrArg
	}
	return &s.offices[number], api.OK
}

// Sign signs an act of today.
func (s *Site) Sign(number int, line string) api.Errno {
	o, e := s.office(number)
	if e != api.OK {
		return e
	}
	if o.disk.Down() {
		return api.ErrDown
	}
	signed := o.Stock().Have[number]
	if signed >= api.MaxActs {
		return api.ErrLimit
	}
	x, e := keep.Read(strconv.Itoa(number) + " " + s.dated(signed+1, line))
	if e != api.OK {
		return e
	}
	_, e = o.Sign(x)
	return e
}

// Greet puts the greeting of an office on its line to another one.
func (s *Site) Greet(from, to int) api.Errno {
	o, e := s.office(from)
	if e != api.OK {
		return e
	}
	if _, e := s.office(to); e != api.OK || from == to {
		return api.ErrArg
	}
	if o.disk.Down() {
		return api.ErrDown
	}
	return s.put(from, to, o.Greet())
}

// Carry takes a message from a line and lets the office hear it to which it leads; the answer is put on the line back.
func (s *Site) Carry(from, to, index int) api.Errno {
	m, e := s.message(from, to, index)
	if e != api.OK {
		return e
	}
	o := &s.offices[to]
	if o.disk.Down() {
		return api.ErrDown
	}
	s.take(from, to, index)
	answer, e := o.Hear(m)
	if e != api.OK {
		return e
	}
	if answer != "" {
		// A line that is full loses the answer; this is no error.
		s.put(to, from, answer)
	}
	return api.OK
}

// Lose takes a message away.
func (s *Site) Lose(from, to, index int) api.Errno {
	if _, e := s.message(from, to, index); e != api.OK {
		return e
	}
	s.take(from, to, index)
	return api.OK
}

// Repeat puts a copy of a message at the end of its line.
func (s *Site) Repeat(from, to, index int) api.Errno {
	m, e := s.message(from, to, index)
	if e != api.OK {
		return e
	}
	return s.put(from, to, m)
}

// Stop lets the power of an office's disk fail when some more calls have returned OK.
func (s *Site) Stop(number, calls int) api.Errno {
	o, e := s.office(number)
	if e != api.OK {
		return e
	}
	return o.disk.Stop(calls)
}

// Crash starts the disk of an office anew, with the first bytes of its pending writes, and its keeper from it.
func (s *Site) Crash(number int, kept []int) api.Errno {
	o, e := s.office(number)
	if e != api.OK {
		return e
	}
	o.disk.Crash(kept)
	keeper, e := keep.Start(o.disk, number)
	if e != api.OK {
		return e
	}
	o.Keeper = keeper
	return api.OK
}

// message returns a message on a line; ErrNone if there is none.
func (s *Site) message(from, to, index int) (string, api.Errno) {
	if s == nil {
		return "", api.ErrNil
	}
	line := s.lines[api.Pair{A: from, B: to}]
	if !isWithin(index, 0, len(line)-1) {
		return "", api.ErrNone
	}
	return line[index], api.OK
}

// take takes a message from a line that has it.
func (s *Site) take(from, to, index int) {
	at := api.Pair{A: from, B: to}
	s.lines[at] = slices.Delete(s.lines[at], index, index+1)
}

// put puts a message at the end of a line, if this has room.
func (s *Site) put(from, to int, m string) api.Errno {
	at := api.Pair{A: from, B: to}
	if len(s.lines[at]) >= api.MaxLine {
		return api.ErrFull
	}
	s.lines[at] = append(s.lines[at], m)
	return api.OK
}
