package keep_test

import (
	"slices"
	"testing"

	"giornata/api"
	"giornata/keep"
)

// post is offices that send each other messages over lines that lose, repeat, delay and mix them.
type post struct {
	t       *testing.T
	dice    *dice
	offices []*member
	// sent has all messages that were sent, and to whom.
	sent []parcel
}

type parcel struct {
	from, to int
	text     string
}

// member is an office: its disk, its keeper, what it signed with OK, what it may have signed besides, and the register that it had last.
type member struct {
	disk           *keep.Disk
	keeper         *keep.Keeper
	signed, unsure []api.Act
	had            []api.Act
}

func newPost(t *testing.T, seed uint64, offices, sectors int) *post {
	p := &post{t: t, dice: &dice{seed}}
	for number := range offices {
		d := newDisk(t, sectors)
		p.offices = append(p.offices, &member{disk: d, keeper: start(t, d, number)})
	}
	return p
}

// mayFail wants no error but some that may be.
func (p *post) mayFail(e api.Errno, allowed ...api.Errno) {
	p.t.Helper()
	want(p.t, "an error that may be", e == api.OK || slices.Contains(allowed, e), true)
}

func (p *post) sign(number int) {
	p.t.Helper()
	o := p.offices[number]
	x := p.dice.fill(api.Act{Office: number, Number: len(o.signed) + 1, Day: p.dice.roll(3)}, 4, o.had)
	if len(o.signed) > 0 {
		x.Day += o.signed[len(o.signed)-1].Day
	}
	got, e := o.keeper.Sign(x)
	p.mayFail(e, api.ErrDown, api.ErrFull)
	switch e {
	case api.OK:
		want(p.t, "the Number", got, x.Number)
		o.signed = append(o.signed, x)
	case api.ErrDown:
		o.unsure = append(o.unsure, x)
	}
}

func (p *post) greet(from, to int) {
	p.sent = append(p.sent, parcel{from, to, p.offices[from].keeper.Greet()})
}

// hear lets an office hear a message; what it answers is sent.
func (p *post) hear(x parcel) bool {
	p.t.Helper()
	answer, e := p.offices[x.to].keeper.Hear(x.text)
	p.mayFail(e, api.ErrDown, api.ErrFull)
	if answer != "" {
		p.sent = append(p.sent, parcel{x.to, x.from, answer})
	}
	return answer != ""
}

func (p *post) crash(number int) {
	p.t.Helper()
	o := p.offices[number]
	o.disk.Crash(p.dice.keeps(p.dice.roll(7)))
	o.keeper = start(p.t, o.disk, number)
	own := keep.By(o.keeper.Register(), number)
	if len(own) > len(o.signed) && len(o.unsure) > 0 {
		want(p.t, "what may be there behind a crash", own, append(clone(o.signed), o.unsure[0]))
		o.signed = own
	}
	o.unsure = nil
}

// check looks at all that has to hold at each moment.
func (p *post) check() {
	p.t.Helper()
	known := map[api.Stock][]api.Act{}
	for number, o := range p.offices {
		got := o.keeper.Register()
		want(p.t, "a register", keep.Check(got), api.OK)
		want(p.t, "the Stock", o.keeper.Stock(), keep.Count(got))
		want(p.t, "the own acts", keep.By(got, number), o.signed)
		merged, e := keep.Merge(o.had, got)
		wants(p.t, "a register that only grows", of(merged, e), got, api.OK)
		o.had = got
		for _, x := range got {
			signed := p.offices[x.Office].signed
			want(p.t, "an act that its office signed", x.Number <= len(signed) && same(signed[x.Number-1], x), true)
		}
		if other, is := known[keep.Count(got)]; is {
			want(p.t, "the register of whoever has the same stock", got, other)
		}
		known[keep.Count(got)] = got
	}
}

// agree lets each office greet each other one, in turn, and wants all to have the same register.
func (p *post) agree() {
	p.t.Helper()
	for number, o := range p.offices {
		if o.disk.Down() {
			p.crash(number)
		}
		want(p.t, "the error of Stop", o.disk.Stop(huge), api.OK)
	}
	p.check()
	var all []api.Act
	for _, o := range p.offices {
		merged, e := keep.Merge(all, o.keeper.Register())
		want(p.t, "the error of Merge", e, api.OK)
		all = merged
	}
	for from := range p.offices {
		for to := range p.offices {
			if from == to {
				continue
			}
			p.greet(from, to)
			for p.hear(p.sent[len(p.sent)-1]) {
			}
		}
	}
	states, e := keep.Fold(all)
	want(p.t, "the error of Fold", e, api.OK)
	for _, o := range p.offices {
		want(p.t, "the register of all", o.keeper.Register(), all)
		wants(p.t, "the wall of all", of(keep.Fold(o.keeper.Register())), states, api.OK)
	}
	p.check()
}

// P9.6 (T8): whatever links and disks do, all offices come to one record.
func TestOneRecord(t *testing.T) {
	for seed := range uint64(40) {
		offices := 2 + int(seed)%4
		p := newPost(t, seed, offices, 3000)
		for range 200 {
			number := p.dice.roll(offices)
			other := (number + 1 + p.dice.roll(offices-1)) % offices
			switch p.dice.roll(12) {
			case 0, 1, 2:
				p.sign(number)
			case 3, 4:
				p.greet(number, other)
			case 5, 6, 7, 8:
				if len(p.sent) > 0 {
					p.hear(p.sent[len(p.sent)-1-p.dice.roll(min(len(p.sent), 6))])
				}
			case 9:
				if len(p.sent) > 0 {
					p.hear(p.sent[p.dice.roll(len(p.sent))])
				}
			case 10:
				p.offices[number].disk.Stop(p.dice.roll(12))
			case 11:
				p.crash(number)
			}
			p.check()
		}
		p.agree()
	}
}

// P9.6: more acts than one letter has, and disks that were full.
func TestManyActs(t *testing.T) {
	p := newPost(t, 1, 8, 8000)
	for i := range 900 {
		p.sign(i % 5)
	}
	p.agree()
	want(t, "all acts", len(p.offices[7].keeper.Register()), 900)
	small := newPost(t, 2, 2, 16)
	for i := range 60 {
		small.sign(i % 2)
	}
	small.greet(0, 1)
	for small.hear(small.sent[len(small.sent)-1]) && len(small.sent) < 50 {
	}
	small.check()
}

// P9.7: a message that is heard twice has the effect of hearing it once.
func TestAgain(t *testing.T) {
	d := &dice{21}
	for range 100 {
		all := d.register(60, 4, 5)
		k := keeper(t, 7, "0 0 3 crack 1")
		for _, l := range [][]api.Act{d.part(all), d.part(all), all} {
			slices.SortFunc(l, func(x, y api.Act) int { return (x.Office*501 + x.Number) - (y.Office*501 + y.Number) })
			l = l[:min(50, len(l))]
			if len(l) == 0 {
				continue
			}
			_, e := k.Hear(letterOf(l))
			want(t, "the error of Hear", e, api.OK)
			once := k.Register()
			hear(t, k, letterOf(l), "")
			want(t, "Register", k.Register(), once)
		}
	}
	k := keeper(t, 2, "0 0 3 crack 1")
	for range 2 {
		hear(t, k, have(4), letter("2 1 3 crack 1"))
	}
}
