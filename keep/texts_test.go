package keep_test

import (
	"strings"
	"testing"

	"giornata/api"
	"giornata/keep"
)

// J2: the lines of acts.
func TestLines(t *testing.T) {
	for _, line := range []string{
		"0 1 5 crack 1 2",
		"7 500 100000 mend 100",
		"2 30 0 loss 3 4 5",
		"1 2 7 repaint blue 1 3",
		"1 2 7 repaint crack 1",
		"1 2 7 repaint a-9- 1",
		"0 3 8 remove 17 2 9",
		"0 4 9 undo 17",
	} {
		wants(t, "Write of the act of "+line, of(keep.Write(act(line))), line, api.OK)
		wants(t, "Read of "+line, of(keep.Read(line)), act(line), api.OK)
	}
	for _, x := range invalidActs() {
		wants(t, "Write of an act that is not valid", of(keep.Write(x)), "", api.ErrArg)
	}
}

// J2: what is not the line of a valid act.
func TestNoLines(t *testing.T) {
	for _, line := range []string{
		"", " ", "0", "0 1", "0 1 5", "0 1 5 ", "0 1 5 crack", "0 1 5 crack ", "0 1 5 crack 1 ", " 0 1 5 crack 1", "0  1 5 crack 1", "0 1 5 crack  1", "0\t1 5 crack 1", "0 1 5 crack 1\n", "0 1 5 crack 1\r",
		"00 1 5 crack 1", "0 01 5 crack 1", "0 1 05 crack 1", "0 1 5 crack 01", "+0 1 5 crack 1", "0 +1 5 crack 1", "-0 1 5 crack 1", "0 1 5 crack +1", "0 1 5 crack -1", "0 1 5 crack 0x1", "0 1 5 crack 1_0",
		"8 1 5 crack 1", "-1 1 5 crack 1", "0 0 5 crack 1", "0 501 5 crack 1", "0 1 -1 crack 1", "0 1 100001 crack 1", "0 1 5 crack 0", "0 1 5 crack 101", "0 1 5 crack 2 1", "0 1 5 crack 1 1",
		"0 1 5 Crack 1", "0 1 5 cracks 1", "0 1 5 none 1", "0 1 5  1", "0 1 5 1 1", "0 1 5 7 1", "0 1 5 crack one", "0 1 5 crack 99999999999999999999", "99999999999999999999 1 5 crack 1",
		"0 1 5 repaint", "0 1 5 repaint blue", "0 1 5 repaint 1", "0 1 5 repaint 1 2", "0 1 5 repaint Blue 1", "0 1 5 repaint blue red 1", "0 1 5 repaint  1", "0 1 5 repaint blue  1", "0 1 5 repaint " + strings.Repeat("a", 25) + " 1",
		"0 1 5 remove", "0 1 5 remove 9", "0 1 5 remove 8 1", "0 1 5 remove 7 1", "0 1 5 remove 4008 1", "0 1 5 remove 09 1", "0 1 5 remove blue 1",
		"0 1 5 undo", "0 1 5 undo 8", "0 1 5 undo 7", "0 1 5 undo 4008", "0 1 5 undo 9 1", "0 1 5 undo 9 ", "0 1 5 undo -9", "0 1 5 undo x",
		"0 1 5 crack" + strings.Repeat(" 1", 101), "0 1 5 crack 1" + strings.Repeat(" ", 1000), strings.Repeat("9 ", 1000), strings.Repeat("0", 1000), "\x00", "0 1 5 \xff 1",
	} {
		wants(t, "Read of "+line, of(keep.Read(line)), api.Act{}, api.ErrForm)
	}
}

// P9.2: Read inverts Write, and Write inverts Read.
func TestInversion(t *testing.T) {
	d := &dice{11}
	l := append(validActs(), d.register(200, 8, 100)...)
	for _, x := range l {
		line, e := keep.Write(x)
		want(t, "the error of Write", e, api.OK)
		wants(t, "Read of "+line, of(keep.Read(line)), x, api.OK)
		for range 20 {
			other := d.spoilt(line)
			if y, e := keep.Read(other); e == api.OK {
				wants(t, "Write of what was read", of(keep.Write(y)), other, api.OK)
			} else {
				wants(t, "Read of "+other, of(y, e), api.Act{}, api.ErrForm)
			}
		}
	}
}

// spoilt returns a text in which something is changed.
func (d *dice) spoilt(text string) string {
	at := d.roll(len(text))
	put := []string{"", "", "0", "1", "9", " ", "a", "-", "\n", text[at : at+1], text[at:], text}[d.roll(12)]
	return text[:at] + put + text[at+d.roll(2):]
}
