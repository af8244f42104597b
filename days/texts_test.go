package days_test

import (
	"slices"
	"strings"
	"testing"

	"giornata/api"
	"giornata/days"
)

// D16, P4.9: the texts of divisions.
func TestWriteAndRead(t *testing.T) {
	for _, x := range []struct {
		d, normal api.Division
		text      string
	}{
		{division(p(2, 3), p(1, 0)), division(p(0, 1), p(2, 3)), "day 0 1\nday 2 3\n"},
		{division(), division(), ""},
		{division(p(0)), division(p(0)), "day 0\n"},
		{division(p(huge, 10), p(7)), division(p(7), p(10, huge)), "day 7\nday 10 9223372036854775807\n"},
		{division(cells(0, 24)), division(cells(0, 24)), "day 0 1 2 3 4 5 6 7 8 9 10 11 12 13 14 15 16 17 18 19 20 21 22 23\n"},
	} {
		wants(t, "Write", of(days.Write(x.d)), x.text, api.OK)
		wants(t, "Read", of(days.Read(x.text)), x.normal, api.OK)
	}
	for _, x := range []struct {
		d api.Division
		e api.Errno
	}{
		{division(cells(0, 25)), api.ErrLimit},
		{division(p(0), nil), api.ErrArg},
		{division(p(-1)), api.ErrArg},
		{division(p(1), p(1)), api.ErrTwice},
	} {
		wants(t, "Write", of(days.Write(x.d)), "", x.e)
	}
	d := &dice{14}
	for range 100 {
		div := d.division(d.roll(25))
		text, e := days.Write(div)
		wants(t, "Write", of(text, e), text, api.OK)
		wants(t, "Read of Write", of(days.Read(text)), normal(div), api.OK)
	}
}

// D16: texts of no division.
func TestReadNothing(t *testing.T) {
	for _, text := range []string{
		"\n", " ", "day\n", "day \n", "day 0", "day 0\n\n", "\nday 0\n", "day 0 \n", " day 0\n", "day  0\n", "day 0  1\n", "day\t0\n", "day 0\r\n", "day 0\tday\n",
		"Day 0\n", "days 0\n", "da 0\n", "0\n", "0 1\n", "day 00\n", "day 01\n", "day +1\n", "day -1\n", "day -0\n", "day 1.0\n", "day 0x1\n", "day 1_0\n", "day x\n", "day ०\n",
		"day 9223372036854775808\n", "day 99999999999999999999999\n", "day 1 0\n", "day 1\nday 0\n", "day 0 2\nday 0\n", "day 0 0\n", "day 0\nday 0\n",
		"day 0 1 2 3 4 5 6 7 8 9 10 11 12 13 14 15 16 17 18 19 20 21 22 23 24\n", "limits 0\n", "day 0\nlimits 1\n", "day 0\nday\n", "day 0 day 1\n", "\xff", "day 0\x00\n",
	} {
		wants(t, "Read of "+text, of(days.Read(text)), api.Division{}, api.ErrForm)
	}
}

// D16, P4.9: the lines of limits.
func TestWriteAndReadLimits(t *testing.T) {
	most := limits(10000)
	for range 20 {
		most.Stages = append(most.Stages, api.Stage{From: 10000, To: 10000})
	}
	for _, x := range []struct {
		l    api.Limits
		line string
	}{
		{chapterLimits(), "limits 400 0 10 5 20 0 20"},
		{limits(1, 0, 0), "limits 1 0 0"},
		{limits(1, 5, 9, 0, 7), "limits 1 5 9 0 7"},
		{most, "limits 10000" + strings.Repeat(" 10000 10000", 20)},
	} {
		wants(t, "WriteLimits", of(days.WriteLimits(x.l)), x.line, api.OK)
		wants(t, "ReadLimits", of(days.ReadLimits(x.line)), x.l, api.OK)
	}
	for _, l := range []api.Limits{{}, limits(0, 0, 10), limits(1), limits(10001, 0, 1), limits(1, 5, 4), limits(1, -1, 4), limits(1, 0, 10001), {Minutes: 1, Stages: append(slices.Clone(most.Stages), api.Stage{})}} {
		wants(t, "WriteLimits", of(days.WriteLimits(l)), "", api.ErrArg)
	}
	d := &dice{15}
	for range 100 {
		l := d.limits()
		line, e := days.WriteLimits(l)
		wants(t, "WriteLimits", of(line, e), line, api.OK)
		wants(t, "ReadLimits of WriteLimits", of(days.ReadLimits(line)), l, api.OK)
	}
}

// D16: lines of no valid limits.
func TestReadNoLimits(t *testing.T) {
	for _, line := range []string{
		"", "limits", "limits ", "limits 400", "limits 400 0", "limits 400 0 10 5", "limits 400 0 10\n", "limits 400 0 10 ", " limits 400 0 10", "limits  400 0 10", "limits 400 0  10", "limits\t400 0 10",
		"limit 400 0 10", "Limits 400 0 10", "400 0 10", "day 400 0 10", "limits 0 0 10", "limits 10001 0 10", "limits -1 0 10", "limits 1 -1 10", "limits 1 10 9", "limits 1 0 10001",
		"limits 01 0 10", "limits +1 0 10", "limits 1 00 10", "limits 1 -0 10", "limits 1 0 x", "limits x 0 1", "limits 9223372036854775808 0 1", "limits 18446744073709551617 0 1",
		"limits 1 0 10\nlimits 1 0 10", "limits 1" + strings.Repeat(" 0 1", 21), "\xff", "limits 1 0 10\x00",
	} {
		wants(t, "ReadLimits of "+line, of(days.ReadLimits(line)), api.Limits{}, api.ErrForm)
	}
}
