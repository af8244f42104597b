package keep_test

import (
	"slices"
	"strconv"
	"strings"
	"testing"

	"giornata/api"
	"giornata/keep"
)

// letter returns the text of a letter with some lines.
func letter(lines ...string) string {
	return "acts " + strconv.Itoa(len(lines)) + "\n" + strings.Join(lines, "\n") + "\n"
}

// letterOf returns the text of a letter with some valid acts.
func letterOf(l []api.Act) string {
	var lines []string
	for _, x := range l {
		line, _ := keep.Write(x)
		lines = append(lines, line)
	}
	return letter(lines...)
}

// have returns the text of a greeting with a stock.
func have(n ...int) string {
	out := "have"
	for _, x := range stock(n...).Have {
		out += " " + strconv.Itoa(x)
	}
	return out + "\n"
}

// hear lets a keeper hear a message without an error, and wants an answer.
func hear(t *testing.T, k *keep.Keeper, m, answer string) {
	t.Helper()
	wants(t, "Hear of "+m, of(k.Hear(m)), answer, api.OK)
}

// mustStay calls something with an error, and wants a keeper to be as before.
func mustStay(t *testing.T, k *keep.Keeper, call func() results, wanted ...any) {
	t.Helper()
	before := k.Register()
	wants(t, "a call with an error", call(), wanted...)
	want(t, "the register behind an error", k.Register(), before)
}

// J14: the errors of Start, in their order.
func TestStartErrors(t *testing.T) {
	down := newDisk(t, 16)
	write(t, down, 0, "x", api.OK)
	flush(t, down, api.OK)
	stop(t, down, 0, api.OK)
	flush(t, down, api.ErrDown)
	starts := func(d *keep.Disk, office int, wanted api.Errno) {
		t.Helper()
		k, e := keep.Start(d, office)
		wants(t, "Start", of(k == nil, e), true, wanted)
	}
	for _, office := range p(-1, 8, huge, tiny) {
		starts(nil, office, api.ErrArg)
		starts(down, office, api.ErrArg)
		starts(newDisk(t, 16), office, api.ErrArg)
	}
	for office := range 8 {
		starts(nil, office, api.ErrNil)
		starts(down, office, api.ErrDown)
	}
	down.Crash(nil)
	starts(down, 0, api.ErrSpoilt)
}

// J14: on a new disk there is nothing, and Start leaves it so.
func TestStartOnNewDisk(t *testing.T) {
	for _, sectors := range p(16, 100) {
		d := newDisk(t, sectors)
		before := contents(t, d, sectors)
		for office := range 8 {
			k := start(t, d, office)
			want(t, "Register", k.Register(), []api.Act(nil))
			want(t, "Stock", k.Stock(), api.Stock{})
			want(t, "Greet", k.Greet(), "have 0 0 0 0 0 0 0 0\n")
			hear(t, k, have(), "")
			hear(t, k, have(3), have())
		}
		want(t, "the disk", contents(t, d, sectors), before)
		d.Crash(p(64, 64, 64))
		want(t, "the disk behind a crash", contents(t, d, sectors), before)
		k := start(t, d, 5)
		sign(t, k, "0 0 1 crack 1")
		want(t, "the keeper that was started last", start(t, d, 5).Register(), list("5 1 1 crack 1"))
	}
}

// J14: a keeper that is started anew has what the one before it had, at any time.
func TestStartAgain(t *testing.T) {
	d := newDisk(t, 400)
	k := start(t, d, 1)
	again := func() {
		t.Helper()
		before := contents(t, d, 400)
		register, stock := k.Register(), k.Stock()
		k = start(t, d, 1)
		want(t, "Register", k.Register(), register)
		want(t, "Stock", k.Stock(), stock)
		want(t, "the disk", contents(t, d, 400), before)
	}
	sign(t, k, "0 0 5 crack 1 2")
	again()
	hear(t, k, letter("0 1 2 crack 4", "3 1 9 loss 7"), have(1, 1, 0, 1))
	again()
	d.Crash(nil)
	again()
	sign(t, k, "0 0 5 undo 8", "0 0 8 repaint "+strings.Repeat("z", 24)+" 5")
	k.Hear(letterOf(many(6, 50)))
	again()
	d.Crash(p(64))
	again()
	sign(t, k, "0 0 8 remove 25 5")
	again()
	want(t, "the stock at the end", k.Stock(), stock(1, 4, 0, 1, 0, 0, 50))
}

// J14: disks that contain something else.
func TestSpoilt(t *testing.T) {
	starts := func(name string, d *keep.Disk, office int) {
		t.Helper()
		before := contents(t, d, 100)
		k, e := keep.Start(d, office)
		wants(t, "Start on a disk with "+name, of(k == nil, e), true, api.ErrSpoilt)
		want(t, "the disk with "+name, contents(t, d, 100), before)
	}
	used := func(office int) *keep.Disk {
		d := newDisk(t, 100)
		k := start(t, d, office)
		sign(t, k, "0 0 5 crack 1 2")
		k.Hear(letterOf(many((office+1)%8, 20)))
		sign(t, k, "0 0 5 repaint "+strings.Repeat("z", 24)+" 5 9 77 88")
		return d
	}
	heard := newDisk(t, 100)
	hear(t, start(t, heard, 2), letter("1 1 5 crack 1"), have(0, 1))
	for office := range 8 {
		for other := range 8 {
			if other != office {
				starts("another office's acts", used(office), other)
			}
		}
		if office != 2 {
			starts("acts that another office heard", heard, office)
		}
	}
	full := strings.Repeat("\xff", 64)
	for _, text := range []string{"x", "something else", "0 1 5 crack 1 2\n", "acts 1\n0 1 5 crack 1 2\n", "\x01", "\x01x", "\x02", "\x00\xff", "\x00\x00\x00\x01", full, strings.Repeat("\x01", 64), strings.Repeat("0", 64), "\x010 23\nacts 1\n0 1 5 crack 1 2", "\x010 -1\n", "\x010 9999999999999999999999\n", "\x010 9223372036854775807\n", "\x010 99\nacts 1\n", "\x010 0\n", "\x010 6300\n"} {
		for _, sector := range p(0, 1, 3, 50, 99) {
			d := newDisk(t, 100)
			write(t, d, sector, text, api.OK)
			flush(t, d, api.OK)
			starts("what no keeper writes", d, 0)
			d = used(0)
			write(t, d, sector, text, api.OK)
			starts("what no keeper writes on its sectors", d, 0)
		}
	}
}

// J14: a byte of an act that was changed to what no keeper writes.
func TestSpoiltBytes(t *testing.T) {
	d := newDisk(t, 20)
	sign(t, start(t, d, 3), "0 0 5 repaint blue 1 22")
	whole := contents(t, d, 20)
	for at := range 64 {
		text := []byte(whole[:64])
		text[at] = 200
		write(t, d, 0, string(text), api.OK)
		k, e := keep.Start(d, 3)
		wants(t, "Start with another byte", of(k == nil, e), true, api.ErrSpoilt)
	}
	write(t, d, 0, whole[:64], api.OK)
	want(t, "the keeper of the disk as it was", start(t, d, 3).Register(), list("3 1 5 repaint blue 1 22"))
}

// R1: whatever is on a disk, the calls end, and do not panic.
func TestAnyDisk(t *testing.T) {
	dice := &dice{17}
	for range 3000 {
		d := newDisk(t, 16)
		k := start(t, d, 0)
		sign(t, k, "0 0 5 crack 1 2", "0 0 5 repaint red 9")
		k.Hear(letterOf(many(1, 12)))
		for range 1 + dice.roll(3) {
			sector := dice.roll(7)
			text, _ := d.Read(sector)
			for range 1 + dice.roll(3) {
				text[dice.roll(64)] = []byte{0, 1, '0', '9', ' ', '\n', 'a', byte(dice.roll(256))}[dice.roll(8)]
			}
			write(t, d, sector, string(text), api.OK)
		}
		// The keeper that was there before goes on too, on a disk that is not its own any more.
		keepers := []*keep.Keeper{k}
		if other, e := keep.Start(d, 0); e == api.OK {
			want(t, "a register", keep.Check(other.Register()), api.OK)
			keepers = append(keepers, other)
		}
		for _, k := range keepers {
			k.Sign(act("0 0 7 crack 4"))
			k.Hear(letterOf(many(1, 50)))
			keep.Start(d, dice.roll(2))
		}
	}
}

// J15: own acts.
func TestSign(t *testing.T) {
	k := keeper(t, 3)
	for i, line := range []string{"0 0 5 crack 1 2", "7 500 5 mend 1", "-9 -9 6 repaint blue 1", "3 1 6 undo 27"} {
		wants(t, "Sign", of(k.Sign(act(line))), i+1, api.OK)
	}
	want(t, "Register", k.Register(), list("3 1 5 crack 1 2", "3 2 5 mend 1", "3 3 6 repaint blue 1", "3 4 6 undo 27"))
	want(t, "Stock", k.Stock(), stock(0, 0, 0, 4))
	want(t, "Greet", k.Greet(), "have 0 0 0 4 0 0 0 0\n")
	wants(t, "Sign of an act with odd numbers", of(k.Sign(with(act("0 0 6 undo 35"), func(x *api.Act) { x.Office, x.Number = tiny, huge }))), 5, api.OK)
	wants(t, "Sign of an act that is not possible", of(k.Sign(act("0 0 6 mend 70"))), 6, api.OK)
}

// J15: the errors, in their order.
func TestSignErrors(t *testing.T) {
	d := newDisk(t, 4000)
	k := start(t, d, 3)
	sign(t, k, "0 0 5 crack 1 2")
	fails := func(x api.Act, e api.Errno) {
		t.Helper()
		mustStay(t, k, func() results { return of(k.Sign(x)) }, 0, e)
	}
	fails(act("0 0 4 crack 1"), api.ErrTime)
	fails(act("0 0 0 crack 1"), api.ErrTime)
	fails(act("0 0 4 crack 1 1"), api.ErrArg)
	fails(act("0 0 5 undo 19"), api.ErrArg)
	for _, x := range invalidActs() {
		// Office and Number do not matter.
		if x.Office == 1 && x.Number == 2 && x.What != 17 {
			fails(x, api.ErrArg)
		}
	}
	hear(t, k, letter("0 1 9 crack 5"), have(1, 0, 0, 1))
	sign(t, k, "0 0 5 crack 4")
	stop(t, d, 0, api.OK)
	fails(act("0 0 4 crack 1"), api.ErrTime)
	fails(act("0 0 5 crack 1 1"), api.ErrArg)
	want(t, "Down", d.Down(), false)
	for range 2 {
		fails(act("0 0 5 crack 1"), api.ErrDown)
		want(t, "Down", d.Down(), true)
		fails(act("0 0 4 crack 1"), api.ErrTime)
		fails(act("0 0 5 crack 1 1"), api.ErrArg)
	}
	d.Crash(nil)
	k = start(t, d, 3)
	for i := range 498 {
		wants(t, "Sign", of(k.Sign(act("0 0 6 crack 4"))), i+3, api.OK)
	}
	fails(act("0 0 6 crack 4"), api.ErrLimit)
	fails(act("0 0 4 crack 4"), api.ErrLimit)
	fails(api.Act{}, api.ErrLimit)
	stop(t, d, 0, api.OK)
	fails(api.Act{}, api.ErrLimit)
	want(t, "Down", d.Down(), false)
}

// J15: an act of an office may have any reference but its own, which is the one that it gets.
func TestSignOwnReference(t *testing.T) {
	k := keeper(t, 1, "0 0 5 crack 1")
	mustStay(t, k, func() results { return of(k.Sign(act("5 9 5 undo 17"))) }, 0, api.ErrArg)
	wants(t, "Sign", of(k.Sign(act("2 2 5 remove 18 5"))), 2, api.OK)
	wants(t, "Sign", of(k.Sign(act("1 3 5 undo 17"))), 3, api.OK)
}

// J17: the answers to greetings.
func TestHearGreetings(t *testing.T) {
	k := keeper(t, 1, "0 0 5 crack 1", "0 0 7 mend 1")
	hear(t, k, have(), letter("1 1 5 crack 1", "1 2 7 mend 1"))
	hear(t, k, have(5, 1, 500), letter("1 2 7 mend 1"))
	hear(t, k, have(0, 2), "")
	hear(t, k, have(0, 3), have(0, 2))
	hear(t, k, have(0, 2, 0, 0, 0, 0, 0, 1), have(0, 2))
	hear(t, k, letter("0 1 5 crack 5", "3 1 2 loss 9 10"), have(1, 2, 0, 1))
	hear(t, k, have(0, 1), letter("0 1 5 crack 5", "1 2 7 mend 1", "3 1 2 loss 9 10"))
	hear(t, k, have(1, 2, 0, 1), "")
	hear(t, k, have(1, 2, 0, 500), have(1, 2, 0, 1))
	k.Hear(letterOf(many(5, 50)))
	k.Hear(letterOf(many(5, 70)[40:][:20]))
	answer, e := k.Hear(have(1, 1, 0, 1, 0, 3))
	wants(t, "Hear", of(answer, e), letterOf(append(list("1 2 7 mend 1"), many(5, 60)[3:52]...)), api.OK)
	hear(t, k, have(500, 500, 500, 500, 500, 59, 500, 500), letterOf(many(5, 60)[59:]))
}

// J17: letters.
func TestHearLetters(t *testing.T) {
	k := keeper(t, 1, "0 0 5 crack 1")
	hear(t, k, letter("0 2 5 crack 2"), "")
	hear(t, k, letter("0 1 5 crack 5", "0 2 5 mend 5", "0 4 1 undo 8", "2 2 5 mend 5", "3 1 0 loss 7"), have(2, 1, 0, 1))
	want(t, "Register", k.Register(), list("3 1 0 loss 7", "0 1 5 crack 5", "0 2 5 mend 5", "1 1 5 crack 1"))
	hear(t, k, letter("0 1 5 crack 5", "0 2 5 mend 5", "0 4 1 undo 8", "2 2 5 mend 5", "3 1 0 loss 7"), "")
	hear(t, k, letter("0 2 5 mend 5", "0 3 6 crack 6", "0 4 9 crack 7", "1 1 5 crack 1"), have(4, 1, 0, 1))
	hear(t, k, letter("1 1 5 crack 1"), "")
	want(t, "Stock", k.Stock(), stock(4, 1, 0, 1))
}

// J17: what is no message changes nothing (P9.2).
func TestNoMessages(t *testing.T) {
	d := newDisk(t, 100)
	k := start(t, d, 1)
	sign(t, k, "0 0 5 crack 1")
	long := letterOf(many(0, 51))
	before := contents(t, d, 100)
	for _, m := range []string{
		"", "\n", " ", "x", "x\n", "have", "have\n", "have 0 0 0 0 0 0 0 0", "have 0 0 0 0 0 0 0\n", "have 0 0 0 0 0 0 0 0 0\n", "have 0 0 0 0 0 0 0 0 \n", " have 0 0 0 0 0 0 0 0\n", "have  0 0 0 0 0 0 0 0\n", "have 0 0 0 0 0 0 0 0\n\n", "\nhave 0 0 0 0 0 0 0 0\n",
		"have 0 0 0 0 0 0 0 0\r\n", "Have 0 0 0 0 0 0 0 0\n", "had 0 0 0 0 0 0 0 0\n", "have 0 0 0 0 0 0 0 00\n", "have +0 0 0 0 0 0 0 0\n", "have -0 0 0 0 0 0 0 0\n", "have -1 0 0 0 0 0 0 0\n", "have 501 0 0 0 0 0 0 0\n", "have 0 0 0 0 0 0 0 501\n", "have 0 0 0 0 0 0 0 x\n", "have 0 0 0 0 0 0 0 \n", "have 0 0 0 0 0 0 0 99999999999999999999\n",
		"acts\n", "acts 0\n", "acts 1\n", "acts 0\n\n", "acts 1\n\n", "acts 1\n0 1 5 crack 1", "acts 2\n0 1 5 crack 1\n", "acts 1\n0 1 5 crack 1\n0 2 5 mend 1\n", "acts 01\n0 1 5 crack 1\n", "acts +1\n0 1 5 crack 1\n", "acts 1 \n0 1 5 crack 1\n", "acts  1\n0 1 5 crack 1\n", "act 1\n0 1 5 crack 1\n", "acts x\n0 1 5 crack 1\n", "0 1 5 crack 1\n", "acts 1\n0 1 5 crack 1\n\n", "acts 1\n0 1 5 crack 1\nx", "acts 1\n 0 1 5 crack 1\n", "acts 1\n0 1 5 crack 1 \n", "acts 1\n0 1 5 crack 1\r\n",
		letter("0 1 5 crack 101"), letter("0 1 5 crack 1", ""), letter("", "0 1 5 crack 1"), letter("0 1 5 crack 1", "0 1 5 crack 1"), letter("0 2 5 crack 1", "0 1 5 mend 1"), letter("2 1 5 crack 1", "0 1 5 mend 1"), letter("0 1 5 crack 1", "3 9 5 crack 1", "2 1 5 crack 1"),
		long, letterOf(many(0, 60)), strings.Replace(long, "51", "50", 1), strings.Repeat("\n", 5000), strings.Repeat(" ", 5000), "have" + strings.Repeat(" 0", 5000) + "\n", "acts 50\n" + strings.Repeat("0 1 5 crack 1\n", 5000),
	} {
		mustStay(t, k, func() results { return of(k.Hear(m)) }, "", api.ErrForm)
	}
	want(t, "the disk", contents(t, d, 100), before)
	wants(t, "Hear of 50 acts", of(k.Hear(letterOf(many(0, 50)))), have(50, 1), api.OK)
}

// J17: letters that contradict what the keeper has.
func TestHearErrors(t *testing.T) {
	d := newDisk(t, 100)
	k := start(t, d, 1)
	sign(t, k, "0 0 5 crack 1", "0 0 7 mend 1")
	hear(t, k, letter("0 1 5 crack 5", "0 2 6 repaint blue 5", "3 1 2 loss 9 10", "3 2 9 undo 9"), have(2, 2, 0, 2))
	before := contents(t, d, 100)
	for _, lines := range [][]string{
		{"1 3 9 crack 1"},
		{"1 4 9 crack 1"},
		{"1 500 0 crack 1"},
		{"0 3 9 crack 1", "1 3 9 crack 1", "2 1 5 crack 1"},
		{"1 2 7 mend 2"},
		{"1 2 8 mend 1"},
		{"0 1 5 crack 6"},
		{"0 1 5 crack 5 6"},
		{"0 1 4 crack 5"},
		{"0 1 5 loss 5"},
		{"0 2 6 repaint red 5", "0 3 9 crack 1"},
		{"0 3 9 crack 1", "3 2 9 undo 8"},
		{"0 3 5 crack 1"},
		{"0 3 6 crack 1", "0 4 5 crack 1"},
		{"0 3 6 crack 1", "2 1 4 crack 1", "2 2 3 crack 1"},
		{"3 3 8 crack 1"},
	} {
		mustStay(t, k, func() results { return of(k.Hear(letter(lines...))) }, "", api.ErrState)
	}
	want(t, "the disk", contents(t, d, 100), before)
	stop(t, d, 0, api.OK)
	mustStay(t, k, func() results { return of(k.Hear(letter("1 3 9 crack 1"))) }, "", api.ErrState)
	want(t, "Down", d.Down(), false)
	mustStay(t, k, func() results { return of(k.Hear(letter("0 3 6 crack 1"))) }, "", api.ErrDown)
	want(t, "Down", d.Down(), true)
	mustStay(t, k, func() results { return of(k.Hear(letter("1 3 9 crack 1"))) }, "", api.ErrState)
	mustStay(t, k, func() results { return of(k.Hear("x")) }, "", api.ErrForm)
	mustStay(t, k, func() results { return of(k.Hear(letter("0 3 6 crack 1"))) }, "", api.ErrDown)
}

// J17: days behind a gap, or of what the keeper has, do not matter; those of other offices do not either.
func TestHearDays(t *testing.T) {
	k := keeper(t, 1, "0 0 50 crack 1")
	hear(t, k, letter("0 1 9 crack 5", "2 1 3 crack 6", "2 2 3 mend 6", "3 2 0 crack 1"), have(1, 1, 2))
	hear(t, k, letter("0 1 9 crack 5", "0 3 0 crack 5", "2 4 0 crack 6"), "")
	hear(t, k, letter("0 2 9 mend 5", "0 4 0 crack 5"), have(2, 1, 2))
}

// J17: greetings, and letters of which nothing is taken, do not use the disk.
func TestHearWithoutDisk(t *testing.T) {
	d := newDisk(t, 100)
	k := start(t, d, 1)
	sign(t, k, "0 0 5 crack 1")
	hear(t, k, letter("0 1 5 crack 5"), have(1, 1))
	for i := range 2 {
		stop(t, d, 0, []api.Errno{api.OK, api.ErrDown}[i])
		hear(t, k, have(), letter("0 1 5 crack 5", "1 1 5 crack 1"))
		hear(t, k, have(1, 1), "")
		hear(t, k, have(1, 2), have(1, 1))
		hear(t, k, letter("0 1 5 crack 5", "0 3 5 crack 6", "1 1 5 crack 1"), "")
		want(t, "Down", d.Down(), i == 1)
		want(t, "Greet", k.Greet(), have(1, 1))
		want(t, "Register", k.Register(), list("0 1 5 crack 5", "1 1 5 crack 1"))
		flush(t, d, api.ErrDown)
	}
}

// J16, J15, J17, R5: nil keepers.
func TestNilKeeper(t *testing.T) {
	var k *keep.Keeper
	wants(t, "Sign", of(k.Sign(api.Act{})), 0, api.ErrNil)
	wants(t, "Hear", of(k.Hear("x")), "", api.ErrNil)
	want(t, "Register", k.Register(), []api.Act(nil))
	want(t, "Stock", k.Stock(), api.Stock{})
	want(t, "Greet", k.Greet(), "")
}

// R3: keepers share no memory with what they are given, nor with what they give.
func TestMemoryOfKeepers(t *testing.T) {
	k := keeper(t, 0)
	x := api.Act{Day: 5, Kind: api.ActCrack, Faces: slices.Grow(p(1, 2), 9)}
	for i := range 2 {
		wants(t, "Sign", of(k.Sign(x)), i+1, api.OK)
	}
	want(t, "the act that is signed", x, api.Act{Day: 5, Kind: api.ActCrack, Faces: p(1, 2)})
	x.Faces[0] = 99
	want(t, "Register", k.Register(), list("0 1 5 crack 1 2", "0 2 5 crack 1 2"))
	one, other := k.Register(), k.Register()
	one[0].Faces[1] = 77
	_ = append(one[0].Faces, 5)
	_ = append(one, api.Act{})
	one[1].Day = 55
	want(t, "another result", other, list("0 1 5 crack 1 2", "0 2 5 crack 1 2"))
	want(t, "Register", k.Register(), other)
}
