package reading_test

import (
	"strconv"
	"testing"

	"giornata/api"
	"giornata/reading"
)

// H3, P8.10: the line of each kind, and the observation of each line.
func TestWriteAndParse(t *testing.T) {
	for _, x := range []struct {
		x    api.Observation
		line string
	}{
		{api.Observation{Id: 1, Known: 0, Reader: 2, Kind: api.ObOver, A: 3, B: 4}, "1 0 2 over 3 4"},
		{api.Observation{Id: 10, Known: 20, Reader: 30, Kind: api.ObSame, A: 24, B: 1}, "10 20 30 same 24 1"},
		{api.Observation{Id: 1000000, Known: 100000, Reader: 1000000, Kind: api.ObApart, A: 10, B: 20}, "1000000 100000 1000000 apart 10 20"},
		{api.Observation{Id: 5, Known: 7, Reader: 2, Kind: api.ObVoid, Of: 4}, "5 7 2 void 4"},
		{api.Observation{Id: 5, Known: 7, Reader: 2, Kind: api.ObVoid, Of: 5}, "5 7 2 void 5"},
		{api.Observation{Id: 5, Known: 7, Reader: 2, Kind: api.ObVoid, Of: 1000000}, "5 7 2 void 1000000"},
	} {
		wants(t, "Write", of(reading.Write(x.x)), x.line, api.OK)
		wants(t, "Parse of "+x.line, of(reading.Parse(x.line)), x.x, api.OK)
	}
	for _, x := range wellFormed {
		line, e := reading.Write(x)
		want(t, "the error of Write", e, api.OK)
		wants(t, "the model's reading of "+line, of(list(line)[0]), x)
		wants(t, "Parse of "+line, of(reading.Parse(line)), x, api.OK)
	}
	for _, x := range malformed() {
		wants(t, "Write of "+spelt(x), of(reading.Write(x)), "", api.ErrArg)
	}
	d := &dice{3}
	for range 100 {
		for _, x := range d.list(24, 12) {
			line, e := reading.Write(x)
			want(t, "the error of Write", e, api.OK)
			wants(t, "Parse of "+line, of(reading.Parse(line)), x, api.OK)
		}
	}
}

// H3: lines of no observation.
func TestParseNothing(t *testing.T) {
	for _, line := range []string{
		"", " ", "#", "over", "1 0 1", "1 0 1 over", "1 0 1 over 1", "1 0 1 over 1 ", "1 0 1 over 1 2 3", "1 0 1 over 1 2 ", " 1 0 1 over 1 2", "1  0 1 over 1 2", "1 0  1 over 1 2", "1 0 1  over 1 2", "1 0 1 over  1 2", "1 0 1 over 1  2", "1 0 1 over 1 2\n", "1 0 1 over 1 2\r", "1\t0 1 over 1 2", "1 0 1 over 1\t2",
		"1 0 1 Over 1 2", "1 0 1 ove 1 2", "1 0 1 overs 1 2", "1 0 1 1 1 2", "1 0 1 none 1 2", "1 0 1  1 2", "1 0 1 OVER 1 2", "over 1 2", "1 0 over 1 2", "1 over 1 2", "1 0 1 2 over 1 2", "over 1 0 1 1 2",
		"1 0 1 over 1 1", "1 0 1 over 0 1", "1 0 1 over 1 0", "1 0 1 over 25 1", "1 0 1 over 1 25", "1 0 1 over -1 2", "1 0 1 over +1 2", "1 0 1 over 1 +2", "1 0 1 over 01 2", "1 0 1 over 1 02", "1 0 1 over a b", "1 0 1 over 1.0 2", "1 0 1 over 1 18446744073709551618", "1 0 1 over 1 4294967298",
		"1 0 1 same 2 2", "1 0 1 same 2", "1 0 1 same 2 3 4", "1 0 1 apart 2 2", "1 0 1 apart 2", "1 0 1 apart 0 0", "1 0 1 same 1 25", "1 0 1 apart 25 1",
		"1 0 1 void", "1 0 1 void ", "1 0 1 void 0", "1 0 1 void -1", "1 0 1 void +2", "1 0 1 void 02", "1 0 1 void 1000001", "1 0 1 void 1 2", "1 0 1 void 2 ", "1 0 1 void a", "1 0 1 void  2", "1 0 1 void 2\n", "1 0 1 void 18446744073709551618",
		"0 0 1 over 1 2", "-1 0 1 over 1 2", "+1 0 1 over 1 2", "01 0 1 over 1 2", "1000001 0 1 over 1 2", "a 0 1 over 1 2", "18446744073709551617 0 1 over 1 2", "1_0 0 1 over 1 2", "0x1 0 1 over 1 2", "1e1 0 1 over 1 2", "\uff11 0 1 over 1 2", " 0 1 over 1 2",
		"1 -1 1 over 1 2", "1 -0 1 over 1 2", "1 +0 1 over 1 2", "1 00 1 over 1 2", "1 100001 1 over 1 2", "1 a 1 over 1 2", "1 18446744073709551616 1 over 1 2",
		"1 0 0 over 1 2", "1 0 -1 over 1 2", "1 0 +1 over 1 2", "1 0 01 over 1 2", "1 0 1000001 over 1 2", "1 0 a over 1 2", "1 0 1 over 1 2\x00", "1 0 1 over 1 \xff", "1 0 1 over 1 2 # seen", "1 0 1 over 1 2\n2 0 1 over 1 2",
	} {
		wants(t, "Parse of "+strconv.Quote(line), of(reading.Parse(line)), api.Observation{}, api.ErrForm)
	}
}
