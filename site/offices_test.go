package site_test

import (
	"strings"
	"testing"

	"giornata/api"
	"giornata/keep"
	"giornata/site"
)

// lines returns the lines of the acts of an office's register.
func lines(s *site.Site, office int) []string {
	var out []string
	for _, x := range s.Register(office) {
		line, _ := keep.Write(x)
		out = append(out, line)
	}
	return out
}

// K14: acts that are signed, and the errors in their order.
func TestSign(t *testing.T) {
	s := newSite(t, 2)
	for _, office := range []int{-1, 2, tiny, huge} {
		want(t, "Sign", s.Sign(office, ""), api.ErrArg)
	}
	for _, line := range []string{"", " ", "crack", "crack 2 1", "crack 1 ", " crack 1", "crack 1\n", "0 1 0 crack 1", "undo 9", "undo 7", "crack 101", "repaint Blue 1"} {
		want(t, "Sign of "+line, s.Sign(1, line), api.ErrForm)
	}
	do(t, s.Sign(1, "crack 1 2"), s.Advance(6), s.Sign(1, "repaint blue 3"), s.Sign(0, "undo 9"))
	want(t, "the register of 0", lines(s, 0), []string{"0 1 6 undo 9"})
	want(t, "the register of 1", lines(s, 1), []string{"1 1 0 crack 1 2", "1 2 6 repaint blue 3"})
	want(t, "the pages", s.Pages(), []api.Page(nil))
	// The power fails: the office is down, and nothing was signed.
	do(t, s.Stop(1, 1))
	want(t, "Sign", s.Sign(1, "mend 1"), api.ErrDown)
	want(t, "Sign where all is down", s.Sign(1, ""), api.ErrDown)
	want(t, "the register of 1", len(s.Register(1)), 2)
	do(t, s.Crash(1, nil), s.Sign(1, "mend 1 2"))
	want(t, "the last line", lines(s, 1)[2], "1 3 6 mend 1 2")
	s = newSite(t, 1)
	for range 500 {
		do(t, s.Sign(0, "crack 1"))
	}
	want(t, "Sign of one more", s.Sign(0, "crack 1"), api.ErrLimit)
	want(t, "Sign of one more without a form", s.Sign(0, ""), api.ErrLimit)
	// An office that goes down while it hears a letter has as many acts, but says first that it is down.
	full := newSite(t, 2)
	for range 500 {
		do(t, full.Sign(0, "crack 1"))
	}
	do(t, full.Sign(1, "crack 1"), full.Greet(0, 1), full.Carry(0, 1, 0), full.Stop(0, 0))
	want(t, "Sign", full.Sign(0, "crack 1"), api.ErrLimit)
	want(t, "Carry", full.Carry(1, 0, 0), api.ErrDown)
	want(t, "Sign", full.Sign(0, "crack 1"), api.ErrDown)
}

// K14: a disk without room.
func TestSignFull(t *testing.T) {
	s, e := site.New(api.Setup{Offices: 1, Sectors: 1000})
	want(t, "the error of New", e, api.OK)
	all := "repaint " + longest
	for _, face := range []string{"1", "2", "3", "4", "5", "6", "7", "8", "9"} {
		for _, last := range []string{"", "0", "1", "2", "3", "4", "5", "6", "7", "8", "9"} {
			if last != "" {
				all += " " + face + last
			} else if face == "1" {
				all += " 1 2 3 4 5 6 7 8 9"
			}
		}
	}
	signed := 0
	for e == api.OK {
		if e = s.Sign(0, all); e == api.OK {
			signed++
		}
	}
	want(t, "the error of a full disk", e, api.ErrFull)
	want(t, "the register", len(s.Register(0)), signed)
	do(t, s.Crash(0, nil))
	want(t, "the register behind a crash", len(s.Register(0)), signed)
	want(t, "some were signed", signed > 40, true)
}

// K15: greetings and letters between two offices, one by one.
func TestMessages(t *testing.T) {
	s := newSite(t, 3)
	do(t, s.Sign(0, "crack 1"), s.Sign(1, "crack 2"), s.Greet(0, 1))
	// The office 1 answers with what 0 does not have; 0 takes it and greets; 1 answers nothing that 0 has, but greets for what it does not have.
	do(t, s.Carry(0, 1, 0), s.Carry(1, 0, 0), s.Carry(0, 1, 0))
	want(t, "the register of 0", lines(s, 0), []string{"0 1 0 crack 1", "1 1 0 crack 2"})
	want(t, "the register of 1", lines(s, 1), []string{"1 1 0 crack 2"})
	do(t, s.Carry(1, 0, 0), s.Carry(0, 1, 0))
	want(t, "the register of 1", lines(s, 1), []string{"0 1 0 crack 1", "1 1 0 crack 2"})
	do(t, s.Carry(1, 0, 0))
	want(t, "the last message", s.Carry(0, 1, 0), api.ErrNone)
	want(t, "no answer", s.Carry(1, 0, 0), api.ErrNone)
	want(t, "the register of 2", lines(s, 2), []string(nil))
}

// K15: the errors of commands about messages, in their order.
func TestMessageErrors(t *testing.T) {
	s := newSite(t, 2)
	for _, x := range [][2]int{{-1, 0}, {2, 0}, {0, -1}, {0, 2}, {0, 0}, {1, 1}, {huge, tiny}} {
		want(t, "Greet", s.Greet(x[0], x[1]), api.ErrArg)
	}
	commands := map[string]func(from, to, index int) api.Errno{"Carry": s.Carry, "Lose": s.Lose, "Repeat": s.Repeat}
	do(t, s.Greet(0, 1))
	for name, command := range commands {
		for _, x := range [][3]int{{0, 1, 1}, {0, 1, -1}, {0, 1, huge}, {1, 0, 0}, {0, 0, 0}, {-1, 1, 0}, {0, 2, 0}, {2, 0, 0}, {huge, tiny, tiny}} {
			want(t, name, command(x[0], x[1], x[2]), api.ErrNone)
		}
	}
	do(t, s.Stop(0, 0), s.Stop(1, 0))
	want(t, "Sign", s.Sign(0, "crack 1"), api.ErrDown)
	want(t, "Sign", s.Sign(1, "crack 1"), api.ErrDown)
	want(t, "Greet", s.Greet(0, 1), api.ErrDown)
	want(t, "Greet to none", s.Greet(0, 2), api.ErrArg)
	want(t, "Carry of none", s.Carry(0, 1, 1), api.ErrNone)
	want(t, "Carry", s.Carry(0, 1, 0), api.ErrDown)
	// The message has stayed. Lines need no power.
	do(t, s.Repeat(0, 1, 0), s.Lose(0, 1, 0), s.Crash(1, nil), s.Greet(1, 0), s.Carry(0, 1, 0))
	want(t, "Carry", s.Carry(0, 1, 0), api.ErrNone)
	want(t, "Carry", s.Carry(1, 0, 0), api.ErrDown)
}

// K15: an office may be asked for by a message, and go down; the message is lost, and what it brought may be there.
func TestCarryFails(t *testing.T) {
	letters := func() *site.Site {
		s := newSite(t, 2)
		do(t, s.Sign(0, "crack 1"), s.Greet(1, 0), s.Carry(1, 0, 0))
		return s
	}
	done := 0
	for calls := range 8 {
		for _, kept := range [][]int{nil, {64, 64, 64, 64}, {1, 2, 3}} {
			s := letters()
			do(t, s.Stop(1, calls))
			e := s.Carry(0, 1, 0)
			want(t, "Carry once more", s.Carry(0, 1, 0), api.ErrNone)
			if e == api.OK {
				done++
				want(t, "the register", len(s.Register(1)), 1)
				continue
			}
			want(t, "Carry", e, api.ErrDown)
			want(t, "the register", len(s.Register(1)), 0)
			want(t, "an answer", s.Carry(1, 0, 0), api.ErrNone)
			do(t, s.Crash(1, kept))
			want(t, "the register behind a crash", len(s.Register(1)) <= 1, true)
		}
	}
	want(t, "some have power enough", done > 0, true)
}

// K15: messages are lost, repeated and carried in any order.
func TestLines(t *testing.T) {
	s := newSite(t, 2)
	do(t, s.Greet(0, 1), s.Sign(0, "crack 1"), s.Greet(0, 1), s.Sign(0, "crack 2"), s.Greet(0, 1))
	// On the line: none, one, two. Without the first one, and the last one again: one, two, two.
	do(t, s.Lose(0, 1, 0), s.Repeat(0, 1, 1), s.Carry(0, 1, 1), s.Carry(0, 1, 1), s.Carry(0, 1, 0))
	want(t, "the line is empty", s.Carry(0, 1, 0), api.ErrNone)
	// Three greetings of 1, because 0 has more each time.
	do(t, s.Lose(1, 0, 2), s.Repeat(1, 0, 0), s.Carry(1, 0, 2), s.Carry(0, 1, 0))
	want(t, "the register of 1", lines(s, 1), []string{"0 1 0 crack 1", "0 2 0 crack 2"})
	do(t, s.Lose(1, 0, 2), s.Lose(1, 0, 0), s.Lose(1, 0, 0))
	want(t, "the line back is empty", s.Lose(1, 0, 0), api.ErrNone)
}

// K15: lines have room for 100 messages.
func TestFullLines(t *testing.T) {
	s := newSite(t, 2)
	do(t, s.Sign(0, "crack 1"), s.Greet(1, 0))
	for range 99 {
		do(t, s.Repeat(1, 0, 0))
	}
	want(t, "Greet", s.Greet(1, 0), api.ErrFull)
	want(t, "Repeat", s.Repeat(1, 0, 99), api.ErrFull)
	want(t, "Repeat of none", s.Repeat(1, 0, 100), api.ErrNone)
	for range 100 {
		do(t, s.Greet(0, 1))
	}
	// The answer finds no room, and is lost.
	do(t, s.Carry(1, 0, 0))
	for range 100 {
		do(t, s.Lose(0, 1, 0))
	}
	want(t, "Lose", s.Lose(0, 1, 0), api.ErrNone)
	do(t, s.Carry(1, 0, 0), s.Carry(0, 1, 0))
	want(t, "the register", len(s.Register(1)), 1)
	// An office that is down, and a line that is full.
	for range 2 {
		s.Greet(1, 0)
	}
	do(t, s.Stop(1, 0))
	want(t, "Sign", s.Sign(1, "crack 1"), api.ErrDown)
	want(t, "Greet", s.Greet(1, 0), api.ErrDown)
}

// K16: disks that stop and crash.
func TestStopAndCrash(t *testing.T) {
	s := newSite(t, 2)
	for _, office := range []int{-1, 2, tiny, huge} {
		want(t, "Stop", s.Stop(office, -1), api.ErrArg)
		want(t, "Crash", s.Crash(office, nil), api.ErrArg)
	}
	want(t, "Stop", s.Stop(0, -1), api.ErrArg)
	do(t, s.Sign(0, "crack 1"), s.Stop(0, 1000), s.Sign(0, "crack 2"), s.Stop(0, 0))
	want(t, "Sign", s.Sign(0, "crack 3"), api.ErrDown)
	want(t, "Stop", s.Stop(0, 0), api.ErrDown)
	want(t, "Stop", s.Stop(0, -1), api.ErrDown)
	// Questions show what was there.
	want(t, "the register", lines(s, 0), []string{"0 1 0 crack 1", "0 2 0 crack 2"})
	want(t, "the wall", s.Wall(0)[1].Cracked, true)
	do(t, s.Sign(1, "crack 9"), s.Crash(0, []int{tiny, huge, 3}))
	want(t, "the register", lines(s, 0), []string{"0 1 0 crack 1", "0 2 0 crack 2"})
	// A crash takes back an earlier Stop.
	do(t, s.Stop(0, 0), s.Crash(0, nil), s.Sign(0, "crack 3"))
	want(t, "the register", len(s.Register(0)), 3)
	want(t, "the other register", lines(s, 1), []string{"1 1 0 crack 9"})
}

// K16: whatever a crash leaves, the keeper has what was signed with OK, and perhaps what was being signed.
func TestCrashes(t *testing.T) {
	both := [2]int{}
	for calls := range 8 {
		for _, kept := range [][]int{nil, {64}, {64, 64, 64, 64}, {0, 64}, {63, 1, 64}} {
			s := newSite(t, 1)
			do(t, s.Sign(0, "crack 1"), s.Stop(0, calls))
			e := s.Sign(0, "repaint "+longest+" 2 3 4 5 6 7 8 9")
			do(t, s.Crash(0, kept))
			got := len(s.Register(0)) - 1
			want(t, "the first act", strings.HasPrefix(lines(s, 0)[0], "0 1 0 crack"), true)
			if e == api.OK {
				want(t, "the acts behind a crash", got, 1)
			} else {
				want(t, "the error of Sign", e, api.ErrDown)
				both[got]++
			}
			do(t, s.Sign(0, "crack 9"))
		}
	}
	want(t, "acts that were lost", both[0] > 0, true)
}

// K17: registers and walls.
func TestWall(t *testing.T) {
	s := newSite(t, 2)
	do(t, s.Sign(0, "crack 1 2"), s.Sign(0, "loss 3"), s.Sign(0, "repaint blue 100"), s.Sign(0, "repaint red 100"))
	states, e := keep.Fold(s.Register(0))
	want(t, "the error of Fold", e, api.OK)
	want(t, "Wall", s.Wall(0), states)
	want(t, "the face 100", s.Wall(0)[99], api.State{Layers: []api.Layer{{Act: 24, Name: "blue"}, {Act: 32, Name: "red"}}})
	want(t, "the other wall", s.Wall(1), make([]api.State, 100))
	for _, office := range []int{-1, 2, tiny, huge} {
		want(t, "Register", s.Register(office), []api.Act(nil))
		want(t, "Wall", s.Wall(office), []api.State(nil))
	}
}
