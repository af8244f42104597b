package keep_test

import (
	"slices"
	"strings"
	"testing"

	"giornata/api"
	"giornata/keep"
)

// office is a keeper, its disk, and what the keeper has to have.
type office struct {
	t        *testing.T
	number   int
	disk     *keep.Disk
	keeper   *keep.Keeper
	sectors  int
	register []api.Act
	// costs are those of the operations that are there.
	costs int
}

func newOffice(t *testing.T, number, sectors int) *office {
	d := newDisk(t, sectors)
	return &office{t: t, number: number, disk: d, keeper: start(t, d, number), sectors: sectors}
}

// costOf returns what an operation costs that adds acts, as the chapter says it.
func costOf(l []api.Act) int {
	n := 60
	for _, x := range l {
		line, _ := keep.Write(x)
		n += 20 + len(line)
	}
	return 1 + n/32
}

// do signs an own act, or hears a letter with acts of others.
func (o *office) do(l []api.Act) api.Errno {
	if len(l) == 1 && l[0].Office == o.number {
		_, e := o.keeper.Sign(l[0])
		return e
	}
	_, e := o.keeper.Hear(letterOf(l))
	return e
}

// add lets the keeper add acts that it does not have; it may fail for the reasons that the chapter names alone.
func (o *office) add(l []api.Act) api.Errno {
	o.t.Helper()
	want(o.t, "acts that come next", keep.Check(longer(o.register, l)), api.OK)
	e := o.do(l)
	switch e {
	case api.OK:
		o.register, o.costs = longer(o.register, l), o.costs+costOf(l)
	case api.ErrFull:
		want(o.t, "full only if the costs are more than half", o.costs+costOf(l) > o.sectors/2, true)
	case api.ErrDown:
		want(o.t, "Down", o.disk.Down(), true)
	default:
		o.t.Errorf("an operation: error %d", e)
	}
	want(o.t, "Register", o.keeper.Register(), o.register)
	return e
}

// longer returns a register with some acts that come next.
func longer(register, l []api.Act) []api.Act {
	out := slices.Concat(register, l)
	slices.SortFunc(out, func(x, y api.Act) int {
		return (x.Day*8+x.Office)*501 + x.Number - (y.Day*8+y.Office)*501 - y.Number
	})
	return out
}

// crash crashes the disk, and starts the keeper anew, which may have the acts of an operation that failed.
func (o *office) crash(keeps []int, failed []api.Act) {
	o.t.Helper()
	o.disk.Crash(keeps)
	o.keeper = start(o.t, o.disk, o.number)
	got := o.keeper.Register()
	if len(failed) > 0 && same(got, longer(o.register, failed)) {
		o.register, o.costs = got, o.costs+costOf(failed)
	}
	want(o.t, "Register behind a crash", got, o.register)
}

// longActs returns acts of an office, the longest that there are.
func longActs(office, first, count int) []api.Act {
	var out []api.Act
	for i := range count {
		out = append(out, api.Act{Office: office, Number: first + i, Day: 100000, Kind: api.ActRepaint, Faces: from(1, 100), Name: strings.Repeat("n", 24)})
	}
	return out
}

// operations are those that an office can do, one after the other.
func operations() [][]api.Act {
	return [][]api.Act{
		list("3 1 5 crack 1 2"),
		many(1, 30),
		longActs(3, 2, 1),
		list("0 1 5 loss 8"),
		append(list("0 2 5 repaint red 8", "2 1 5 crack 8"), longActs(6, 1, 3)...),
		list("3 3 100000 undo 24"),
	}
}

// J12 to J17: whenever the power fails in an operation, and whatever the crash leaves, the keeper has all that was before, and the operation whole or not at all; and all goes on.
func TestPowerFails(t *testing.T) {
	dice := &dice{18}
	for i := range operations() {
		for calls := 0; ; calls++ {
			done := false
			for try := range 12 {
				o := newOffice(t, 3, 4000)
				for _, l := range operations()[:i] {
					want(t, "the error of an operation", o.add(l), api.OK)
				}
				stop(t, o.disk, calls, api.OK)
				failed := operations()[i]
				if done = o.add(failed) == api.OK; done {
					break
				}
				for range 2 {
					want(t, "an operation behind the one that failed", o.add(failed), api.ErrDown)
				}
				o.crash(dice.keeps(try), failed)
				for j, l := range operations()[i:] {
					if j == 0 && keep.Count(o.register).Have[l[0].Office] >= l[0].Number {
						continue
					}
					want(t, "the error of an operation behind a crash", o.add(l), api.OK)
					o.crash(dice.keeps(try), nil)
				}
			}
			if done {
				want(t, "the power fails at some calls", calls > 1, true)
				break
			}
		}
	}
}

// keeps returns how much a crash leaves of each pending write, in one of some ways.
func (d *dice) keeps(way int) []int {
	some := [][]int{{0}, {64}, {0, 64}, {1, 63}, {0, 1, 2, 7, 30, 63, 64}, {1}, {d.roll(65)}}[way%7]
	var out []int
	for range d.roll(40) + 280*(way%2) {
		out = append(out, some[d.roll(len(some))])
	}
	return out
}

// J14: what one operation left that failed is not taken for one of another one, and takes no room.
func TestPowerFailsAgain(t *testing.T) {
	for seed := range 150 {
		dice := &dice{uint64(seed)}
		o := newOffice(t, 3, 64)
		for full := false; !full; {
			by := p(3, 3, 4, 5)[dice.roll(4)]
			l := longActs(by, keep.Count(o.register).Have[by]+1, 1)
			if by != 3 {
				l = longActs(by, l[0].Number, 1+dice.roll(2))
			}
			for i := range l {
				l[i].Faces = from(1+dice.roll(50), 1+dice.roll(50))
			}
			stop(t, o.disk, dice.roll(8), api.OK)
			e := o.add(l)
			full = e == api.ErrFull
			if e != api.ErrDown {
				l = nil
			}
			o.crash(dice.keeps(dice.roll(7)), l)
		}
	}
}

// J15, J17: a disk is full at last, not before its half is, and this has no effect.
func TestFull(t *testing.T) {
	for _, sectors := range p(16, 17, 33, 200) {
		for office := range 2 {
			o := newOffice(t, office, sectors)
			full := false
			for number := 1; !full; number++ {
				l := list("0 1 5 crack 1")
				l[0].Number = number
				before := contents(t, o.disk, sectors)
				full = o.add(l) == api.ErrFull
				if full {
					want(t, "the disk", contents(t, o.disk, sectors), before)
				}
			}
			o.crash(nil, nil)
			large := longActs(0, len(o.register)+1, 1)
			want(t, "the error of an operation", o.add(large), api.ErrFull)
			stop(t, o.disk, 0, api.OK)
			flush(t, o.disk, api.ErrDown)
			want(t, "the error of an operation on a disk that is down", o.add(large), api.ErrDown)
			o.crash(nil, nil)
			want(t, "Greet", o.keeper.Greet(), have(len(o.register)))
		}
	}
}

// J17: there is room for operations of all kinds in the half of a disk.
func TestRoom(t *testing.T) {
	for _, sectors := range p(16, 100, 3000, 65536) {
		for size := range 4 {
			o := newOffice(t, 0, sectors)
			for number, more := 1, true; more && number < 500; {
				count := p(1, 7, 50, 50)[size]
				l := many(1, min(number+count-1, 500))[number-1:]
				if size == 3 {
					l = longActs(1, number, len(l))
				}
				number += len(l)
				more = o.add(l) == api.OK
			}
		}
	}
}

// The greatest letter takes no more than its costs, and a smaller disk than that is full.
func TestGreatestLetter(t *testing.T) {
	l := longActs(1, 1, 50)
	o := newOffice(t, 0, 2*costOf(l))
	want(t, "the error of the greatest letter", o.add(l), api.OK)
	o.crash(nil, nil)
	small := newOffice(t, 0, 16)
	want(t, "the error of the greatest letter on a small disk", small.add(l), api.ErrFull)
	want(t, "the error of a small act", small.add(list("0 1 5 crack 1")), api.OK)
}
