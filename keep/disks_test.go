package keep_test

import (
	"bytes"
	"testing"

	"giornata/api"
	"giornata/keep"
)

// bytesOf returns 64 bytes that begin with some others.
func bytesOf(first string) []byte { return append([]byte(first), make([]byte, 64-len(first))...) }

// write, flush, stop and holds are the steps of a test of a disk, each with what it has to return.
func write(t *testing.T, d *keep.Disk, sector int, text string, wanted api.Errno) {
	t.Helper()
	want(t, "the error of Write", d.Write(sector, []byte(text)), wanted)
}

func flush(t *testing.T, d *keep.Disk, wanted api.Errno) {
	t.Helper()
	want(t, "the error of Flush", d.Flush(), wanted)
}

func stop(t *testing.T, d *keep.Disk, calls int, wanted api.Errno) {
	t.Helper()
	want(t, "the error of Stop", d.Stop(calls), wanted)
}

func holds(t *testing.T, d *keep.Disk, sector int, text string) {
	t.Helper()
	wants(t, "Read", of(d.Read(sector)), bytesOf(text), api.OK)
}

// J11: how large disks are, and what is on a new one.
func TestNewDisk(t *testing.T) {
	for _, n := range p(15, 0, -1, 65537, huge, tiny) {
		d, e := keep.NewDisk(n)
		wants(t, "NewDisk", of(d == nil, e), true, api.ErrArg)
	}
	for _, n := range p(16, 17, 65536) {
		d, e := keep.NewDisk(n)
		wants(t, "NewDisk", of(d == nil, e), false, api.OK)
		holds(t, d, 0, "")
		holds(t, d, n-1, "")
		for _, sector := range p(-1, n, huge, tiny) {
			wants(t, "Read of no sector", of(d.Read(sector)), []byte(nil), api.ErrArg)
			write(t, d, sector, "a", api.ErrArg)
		}
		want(t, "Down", d.Down(), false)
	}
}

// J11, J12: what was written last is read, and zero bytes behind it.
func TestWriteAndRead(t *testing.T) {
	d := newDisk(t, 16)
	write(t, d, 3, "abcdef", api.OK)
	holds(t, d, 3, "abcdef")
	write(t, d, 3, "xy", api.OK)
	holds(t, d, 3, "xy")
	flush(t, d, api.OK)
	holds(t, d, 3, "xy")
	holds(t, d, 2, "")
	holds(t, d, 4, "")
	full := string(bytes.Repeat([]byte{255}, 64))
	write(t, d, 15, full, api.OK)
	holds(t, d, 15, full)
	write(t, d, 15, "", api.OK)
	holds(t, d, 15, "")
	write(t, d, 15, full+"a", api.ErrLimit)
	write(t, d, 16, full+"a", api.ErrArg)
	holds(t, d, 15, "")
	want(t, "Write of nil", d.Write(3, nil), api.OK)
	holds(t, d, 3, "")
}

// J13: the power fails at the call behind those that are counted, and calls with errors are not counted.
func TestStop(t *testing.T) {
	d := newDisk(t, 16)
	stop(t, d, -1, api.ErrArg)
	stop(t, d, tiny, api.ErrArg)
	stop(t, d, 2, api.OK)
	write(t, d, 1, "a", api.OK)
	write(t, d, 16, "b", api.ErrArg)
	write(t, d, 1, string(make([]byte, 65)), api.ErrLimit)
	holds(t, d, 1, "a")
	stop(t, d, -1, api.ErrArg)
	flush(t, d, api.OK)
	write(t, d, 16, "b", api.ErrArg)
	write(t, d, 1, string(make([]byte, 65)), api.ErrLimit)
	want(t, "Down", d.Down(), false)
	write(t, d, 1, "c", api.ErrDown)
	want(t, "Down", d.Down(), true)
	for range 2 {
		write(t, d, 1, "d", api.ErrDown)
		write(t, d, 16, string(make([]byte, 65)), api.ErrDown)
		flush(t, d, api.ErrDown)
		stop(t, d, 3, api.ErrDown)
		stop(t, d, -1, api.ErrDown)
		wants(t, "Read of a disk that is down", of(d.Read(1)), []byte(nil), api.ErrDown)
		wants(t, "Read of no sector of a disk that is down", of(d.Read(16)), []byte(nil), api.ErrDown)
	}
	d.Crash(nil)
	want(t, "Down", d.Down(), false)
	holds(t, d, 1, "a")
	for range 5 {
		write(t, d, 1, "e", api.OK)
		flush(t, d, api.OK)
	}
}

// J13: a later Stop takes the place of an earlier one, and a crash ends it.
func TestStops(t *testing.T) {
	d := newDisk(t, 16)
	stop(t, d, 0, api.OK)
	stop(t, d, 1, api.OK)
	flush(t, d, api.OK)
	stop(t, d, 3, api.OK)
	flush(t, d, api.OK)
	stop(t, d, 0, api.OK)
	flush(t, d, api.ErrDown)
	want(t, "Down", d.Down(), true)
	d.Crash(nil)
	stop(t, d, 0, api.OK)
	d.Crash(nil)
	write(t, d, 1, "a", api.OK)
	stop(t, d, huge, api.OK)
	flush(t, d, api.OK)
}

// J13: what a crash leaves of pending writes.
func TestCrash(t *testing.T) {
	for _, x := range []struct {
		name  string
		keep  []int
		wants [3]string
	}{
		{"no numbers", nil, [3]string{"old0old0", "old1", ""}},
		{"zeros", p(0, 0, 0, 0), [3]string{"old0old0", "old1", ""}},
		{"negative numbers", p(-1, tiny, -64, 0), [3]string{"old0old0", "old1", ""}},
		{"great numbers", p(65, huge, 64, 64), [3]string{"last", "new1new1", "new2"}},
		{"more numbers than writes", p(64, 64, 64, 64, 64, 64), [3]string{"last", "new1new1", "new2"}},
		{"the first write", p(64), [3]string{"first0", "old1", ""}},
		{"a part of the first write", p(5), [3]string{"firstld0", "old1", ""}},
		{"less than its zero bytes", p(7), [3]string{"first0\x000", "old1", ""}},
		{"the others", p(0, 64, 64), [3]string{"old0old0", "new1new1", "new2"}},
		{"a part of one", p(0, 5), [3]string{"old0old0", "new1n", ""}},
		{"one byte of another one", p(0, 0, 1), [3]string{"old0old0", "old1", "n"}},
		{"the last write", p(0, 0, 0, 64), [3]string{"last", "old1", ""}},
		{"a part of the last write alone", p(0, 0, 0, 2), [3]string{"lad0old0", "old1", ""}},
		{"a part of it over the first one", p(64, 0, 0, 2), [3]string{"larst0", "old1", ""}},
		{"parts of both", p(3, 0, 0, 2), [3]string{"lar0old0", "old1", ""}},
	} {
		for _, down := range []bool{false, true} {
			d := newDisk(t, 16)
			write(t, d, 0, "old0old0", api.OK)
			write(t, d, 1, "old1", api.OK)
			flush(t, d, api.OK)
			write(t, d, 0, "first0", api.OK)
			write(t, d, 1, "new1new1", api.OK)
			write(t, d, 2, "new2", api.OK)
			write(t, d, 0, "last", api.OK)
			if down {
				stop(t, d, 0, api.OK)
				flush(t, d, api.ErrDown)
			}
			d.Crash(x.keep)
			want(t, "Down", d.Down(), false)
			for i, text := range x.wants {
				wants(t, "Read behind a crash with "+x.name, of(d.Read(i)), bytesOf(text), api.OK)
			}
			d.Crash(p(64, 64, 64, 64))
			for i, text := range x.wants {
				wants(t, "Read behind another crash", of(d.Read(i)), bytesOf(text), api.OK)
			}
		}
	}
}

// J13: what a call left that failed, and that nothing is pending behind a crash or a Flush.
func TestWhatFailed(t *testing.T) {
	d := newDisk(t, 16)
	write(t, d, 0, "a", api.OK)
	stop(t, d, 0, api.OK)
	write(t, d, 0, "b", api.ErrDown)
	d.Crash(p(64, 64))
	holds(t, d, 0, "a")
	write(t, d, 0, "c", api.OK)
	flush(t, d, api.OK)
	d.Crash(p(0))
	holds(t, d, 0, "c")
	write(t, d, 0, "d", api.OK)
	stop(t, d, 0, api.OK)
	flush(t, d, api.ErrDown)
	d.Crash(p(0))
	holds(t, d, 0, "c")
	write(t, d, 0, "e", api.OK)
	write(t, d, 17, "f", api.ErrArg)
	write(t, d, 1, "g", api.OK)
	d.Crash(p(0, 64))
	holds(t, d, 0, "c")
	holds(t, d, 1, "g")
}

// J11 to J13: nil disks.
func TestNilDisk(t *testing.T) {
	var d *keep.Disk
	wants(t, "Read", of(d.Read(-1)), []byte(nil), api.ErrNil)
	want(t, "Write", d.Write(-1, make([]byte, 65)), api.ErrNil)
	want(t, "Flush", d.Flush(), api.ErrNil)
	want(t, "Stop", d.Stop(-1), api.ErrNil)
	want(t, "Down", d.Down(), true)
	d.Crash(p(1, 2))
}

// R3: disks share no memory with what they are given, nor with what they give.
func TestBytesOfDisks(t *testing.T) {
	d := newDisk(t, 16)
	b := []byte("abc")
	want(t, "the error of Write", d.Write(0, b), api.OK)
	b[0] = 'x'
	holds(t, d, 0, "abc")
	one, _ := d.Read(0)
	other, _ := d.Read(0)
	one[1] = 'y'
	want(t, "another result", other, bytesOf("abc"))
	holds(t, d, 0, "abc")
	keeps := p(1, 2)
	d.Crash(keeps)
	want(t, "the numbers of a crash", keeps, p(1, 2))
	holds(t, d, 0, "a")
}

// plain is a disk with all bytes in one list for what is durable and the pending writes beside it.
type plain struct {
	durable []byte
	sectors []int
	texts   [][]byte
	left    int
	down    bool
}

// after returns all bytes if each pending write leaves so many.
func (m *plain) after(keep func(i int) int) []byte {
	out := bytes.Clone(m.durable)
	for i, sector := range m.sectors {
		for j := range keep(i) {
			out[64*sector+j] = m.texts[i][j]
		}
	}
	return out
}

func (m *plain) fails() bool {
	m.left--
	m.down = m.left == -1
	return m.down
}

// J11 to J13: as the model.
func TestDisksModel(t *testing.T) {
	dice := &dice{16}
	for range 300 {
		d, m := newDisk(t, 16), &plain{durable: make([]byte, 64*16), left: huge}
		for range 60 {
			switch wanted := api.OK; dice.roll(6) {
			case 0, 1, 2:
				sector, text := dice.roll(3), bytes.Repeat([]byte{byte(1 + dice.roll(255))}, dice.roll(65))
				if m.down || m.fails() {
					wanted = api.ErrDown
				} else {
					m.sectors, m.texts = append(m.sectors, sector), append(m.texts, bytesOf(string(text)))
				}
				want(t, "the error of Write", d.Write(sector, text), wanted)
			case 3:
				if m.down || m.fails() {
					wanted = api.ErrDown
				} else {
					m.durable = m.after(func(int) int { return 64 })
					m.sectors, m.texts = nil, nil
				}
				flush(t, d, wanted)
			case 4:
				calls := dice.roll(9)
				if m.down {
					wanted = api.ErrDown
				} else {
					m.left = calls
				}
				stop(t, d, calls, wanted)
			case 5:
				keeps := p(dice.roll(70)-3, dice.roll(70)-3, dice.roll(70)-3, 64)[:dice.roll(5)]
				m.durable = m.after(func(i int) int {
					if i >= len(keeps) {
						return 0
					}
					return min(max(keeps[i], 0), 64)
				})
				*m = plain{durable: m.durable, left: huge}
				d.Crash(keeps)
			}
			want(t, "Down", d.Down(), m.down)
			now := m.after(func(int) int { return 64 })
			for sector := range 3 {
				if m.down {
					wants(t, "Read", of(d.Read(sector)), []byte(nil), api.ErrDown)
				} else {
					wants(t, "Read", of(d.Read(sector)), now[64*sector:64*sector+64], api.OK)
				}
			}
		}
	}
}
