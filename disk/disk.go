// Package disk is layer 1: sectors, a cache ahead of them, and power that goes: see shared/doc/01-disk.md.
package disk

import (
	"bytes"

	"rick/api"
)

// Disk is sectors, and writes that wait.
type Disk struct {
	stay    []byte  // what is there to stay
	now     []byte  // what Read tells: stay, with all done that waits
	waiting []write // in the order in which they came
	on      bool
	left    int // how many Writes and Flushes are done until power goes; below 0: it doesn't go
}

// write is a sector's bytes that wait.
type write struct {
	sector int
	bytes  [api.SectorSize]byte
}

// Fate is what becomes of a write that waits when power goes: is it kept, and which of its parts of eight bytes.
type Fate struct {
	Keep  bool
	Atoms uint8
}

// atomSize is how many bytes of a sector are kept together, or not at all.
const atomSize = 8

// never is a count of steps behind which power doesn't go.
const never = -1

// New is a disk of so many pages, noughts.
func New(pages int) (*Disk, api.Errno) {
	if pages < api.MinPages || pages > api.MaxPages {
		return nil, api.ErrArg
	}
	return Load(make([]byte, pages*api.PageSize))
}

// Load is a disk of which an image's bytes are there to stay.
func Load(image []byte) (*Disk, api.Errno) {
	pages := len(image) / api.PageSize
	if len(image)%api.PageSize != 0 || pages < api.MinPages || pages > api.MaxPages {
		return nil, api.ErrArg
	}
	return &Disk{stay: bytes.Clone(image), now: bytes.Clone(image), on: true, left: never}, api.OK
}

// Read is a sector as it was written last.
func (d *Disk) Read(i int) ([]byte, api.Errno) {
	if e := d.refused(); e != api.OK {
		return nil, e
	}
	if !d.has(i) {
		return nil, api.ErrArg
	}
	return bytes.Clone(sector(d.now, i)), api.OK
}

// Write lets a sector's bytes wait behind the others.
func (d *Disk) Write(i int, b []byte) api.Errno {
	if e := d.refused(); e != api.OK {
		return e
	}
	if !d.has(i) || len(b) != api.SectorSize {
		return api.ErrArg
	}
	if !d.step() {
		return api.ErrStop
	}
	w := write{sector: i}
	copy(w.bytes[:], b)
	d.waiting = append(d.waiting, w)
	copy(sector(d.now, i), b)
	return api.OK
}

// Flush makes all that waits be there to stay.
func (d *Disk) Flush() api.Errno {
	if e := d.refused(); e != api.OK {
		return e
	}
	if !d.step() {
		return api.ErrStop
	}
	for _, w := range d.waiting {
		copy(sector(d.stay, w.sector), w.bytes[:])
	}
	d.waiting = nil
	return api.OK
}

// Fail lets power go in the Write or Flush behind so many that are done.
func (d *Disk) Fail(steps int) {
	if d.refused() != api.OK {
		return
	}
	d.left = max(steps, never)
}

// Crash lets power go now, if it hasn't yet, and be there again.
func (d *Disk) Crash(fates []Fate) {
	if d == nil {
		return
	}
	for k, w := range d.waiting {
		if k < len(fates) && fates[k].Keep {
			keep(sector(d.stay, w.sector), w.bytes[:], fates[k].Atoms)
		}
	}
	copy(d.now, d.stay)
	d.waiting = nil
	d.on = true
	d.left = never
}

// On tells whether there is power.
func (d *Disk) On() bool {
	return d != nil && d.on
}

// Pages is how many pages there are.
func (d *Disk) Pages() int {
	if d == nil {
		return 0
	}
	return len(d.stay) / api.PageSize
}

// Waiting is how many writes wait.
func (d *Disk) Waiting() int {
	if d == nil {
		return 0
	}
	return len(d.waiting)
}

// Image is all bytes that are there to stay.
func (d *Disk) Image() []byte {
	if d == nil {
		return nil
	}
	return bytes.Clone(d.stay)
}

// refused tells why a disk can't be read or written at all.
func (d *Disk) refused() api.Errno {
	switch {
	case d == nil:
		return api.ErrArg
	case !d.on:
		return api.ErrStop
	}
	return api.OK
}

// has tells whether there is such a sector.
func (d *Disk) has(i int) bool {
	return i >= 0 && i < len(d.stay)/api.SectorSize
}

// step counts a Write or Flush that isn't refused, and tells whether it may be done.
func (d *Disk) step() bool {
	if d.left == 0 {
		d.on = false
		return false
	}
	if d.left > 0 {
		d.left--
	}
	return true
}

// sector is where a sector's bytes stand among all bytes.
func sector(all []byte, i int) []byte {
	return all[i*api.SectorSize : (i+1)*api.SectorSize]
}

// keep copies those parts of a sector whose bits are 1.
func keep(to, from []byte, atoms uint8) {
	for k := range api.SectorSize / atomSize {
		if atoms>>k&1 == 1 {
			copy(to[k*atomSize:(k+1)*atomSize], from[k*atomSize:])
		}
	}
}
