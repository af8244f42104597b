package keep

import "giornata/api"

type sector [api.SectorSize]byte

// pending is a write that is not durable: its sector as it was before, and as it is now.
type pending struct {
	at            int
	before, after sector
}

// Disk is a simulated disk.
type Disk struct {
	sectors []sector
	pending []pending
	down    bool
	// If stops is set, the power fails when as many calls as calls says have returned OK.
	stops bool
	calls int
}

// NewDisk returns a new disk.
func NewDisk(sectors int) (*Disk, api.Errno) {
	if sectors < api.MinSectors || sectors > api.MaxSectors {
		return nil, api.ErrArg
	}
	return &Disk{sectors: make([]sector, sectors)}, api.OK
}

// Read returns the bytes of a sector.
func (d *Disk) Read(sector int) ([]byte, api.Errno) {
	if e := d.refusal(sector); e != api.OK {
		return nil, e
	}
	bytes := d.sectors[sector]
	return bytes[:], api.OK
}

// Write writes bytes to the beginning of a sector.
func (d *Disk) Write(sector int, b []byte) api.Errno {
	if e := d.refusal(sector); e != api.OK {
		return e
	}
	if len(b) > api.SectorSize {
		return api.ErrLimit
	}
	if d.fails() {
		return api.ErrDown
	}
	w := pending{at: sector, before: d.sectors[sector]}
	copy(w.after[:], b)
	d.sectors[sector] = w.after
	d.pending = append(d.pending, w)
	return api.OK
}

// Flush makes all pending writes durable.
func (d *Disk) Flush() api.Errno {
	if e := d.silence(); e != api.OK {
		return e
	}
	if d.fails() {
		return api.ErrDown
	}
	d.pending = nil
	return api.OK
}

// Stop lets the power fail when some more calls have returned OK.
func (d *Disk) Stop(calls int) api.Errno {
	if e := d.silence(); e != api.OK {
		return e
	}
	if calls < 0 {
		return api.ErrArg
	}
	d.stops, d.calls = true, calls
	return api.OK
}

// Crash starts the disk anew, with the first bytes of the pending writes.
func (d *Disk) Crash(keep []int) {
	if d == nil {
		return
	}
	for i := len(d.pending) - 1; i >= 0; i-- {
		w := d.pending[i]
		d.sectors[w.at] = w.before
	}
	for i, w := range d.pending {
		left := 0
		if i < len(keep) {
			left = min(max(keep[i], 0), api.SectorSize)
		}
		copy(d.sectors[w.at][:left], w.after[:])
	}
	d.pending, d.down, d.stops = nil, false, false
}

// Down reports whether the disk is down.
func (d *Disk) Down() bool { return d == nil || d.down }

// silence returns why the disk does not answer, or OK.
func (d *Disk) silence() api.Errno {
	switch {
	case d == nil:
		return api.ErrNil
	case d.down:
		return api.ErrDown
	}
	return api.OK
}

// refusal returns why the disk does not answer about a sector, or OK.
func (d *Disk) refusal(sector int) api.Errno {
	if e := d.silence(); e != api.OK {
		return e
	}
	if sector < 0 || sector >= len(d.sectors) {
		return api.ErrArg
	}
	return api.OK
}

// fails reports whether the power fails at a call that would return OK otherwise, which it counts.
func (d *Disk) fails() bool {
	d.down = d.stops && d.calls == 0
	if d.stops {
		d.calls--
	}
	return d.down
}
