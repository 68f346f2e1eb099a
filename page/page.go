// Package page is layer 3: pages that tell what they are: see shared/doc/03-page.md.
package page

import (
	"bytes"

	"rick/api"
	"rick/crc"
	"rick/disk"
)

// Kinds of pages.
const (
	Super  = 'S'
	Leaf   = 'L'
	Inner  = 'I'
	Bitmap = 'B'
)

// Page is one: its kind, where it stands, of which generation it is, what is in it.
type Page struct {
	Kind byte
	Addr int
	Gen  uint64
	Body []byte
}

// Room is how many bytes a page's body has.
const Room = 238

// Where the parts of a page begin.
const (
	addrAt = 2
	genAt  = 4
	sizeAt = 12
	bodyAt = 14
	sumAt  = bodyAt + Room
)

// Put is a page as bytes.
func Put(t crc.Table, p Page) ([]byte, api.Errno) {
	if !isKind(p.Kind) || p.Addr < 0 || p.Addr >= api.MaxPages || len(p.Body) > Room {
		return nil, api.ErrArg
	}
	b := make([]byte, api.PageSize)
	b[0] = p.Kind
	putHigh(b[addrAt:genAt], uint64(p.Addr))
	putHigh(b[genAt:sizeAt], p.Gen)
	putHigh(b[sizeAt:bodyAt], uint64(len(p.Body)))
	copy(b[bodyAt:], p.Body)
	putLow(b[sumAt:], crc.Sum(t, b[:sumAt]))
	return b, api.OK
}

// Get is the page whose Put some bytes are.
func Get(t crc.Table, b []byte) (Page, api.Errno) {
	if len(b) != api.PageSize {
		return Page{}, api.ErrShort
	}
	size := takeHigh(b[sizeAt:bodyAt])
	if size > Room {
		return Page{}, api.ErrForm
	}
	p := Page{
		Kind: b[0],
		Addr: int(takeHigh(b[addrAt:genAt])),
		Gen:  takeHigh(b[genAt:sizeAt]),
		Body: append([]byte(nil), b[bodyAt:bodyAt+size]...),
	}
	// What isn't read above (the noughts, the sum) is right just if Put lays the same.
	same, e := Put(t, p)
	if e != api.OK || !bytes.Equal(same, b) {
		return Page{}, api.ErrForm
	}
	return p, api.OK
}

// Write lays a page on a disk, at its place.
func Write(t crc.Table, d *disk.Disk, p Page) api.Errno {
	if e := ready(d); e != api.OK {
		return e
	}
	b, e := Put(t, p)
	if e != api.OK {
		return e
	}
	return WriteRaw(d, p.Addr, b)
}

// Read is the page of a kind that stands at a place of a disk.
func Read(t crc.Table, d *disk.Disk, addr int, kind byte) (Page, api.Errno) {
	b, e := ReadRaw(d, addr, api.PageSize)
	if e != api.OK {
		return Page{}, e
	}
	p, e := Get(t, b)
	if e != api.OK || p.Addr != addr || p.Kind != kind {
		return Page{}, api.ErrForm
	}
	return p, api.OK
}

// WriteRaw lays bytes, and noughts up to a page's end, from a page on.
func WriteRaw(d *disk.Disk, addr int, b []byte) api.Errno {
	if e := ready(d); e != api.OK {
		return e
	}
	// Looked for ahead of all writing: what is refused changes nothing.
	if !within(d, addr, len(b)) {
		return api.ErrArg
	}
	pages := (len(b) + api.PageSize - 1) / api.PageSize
	whole := make([]byte, pages*api.PageSize)
	copy(whole, b)
	for i := range pages * api.PageSectors {
		s := whole[i*api.SectorSize : (i+1)*api.SectorSize]
		if e := d.Write(addr*api.PageSectors+i, s); e != api.OK {
			return e
		}
	}
	return api.OK
}

// ReadRaw is so many bytes from a page on.
func ReadRaw(d *disk.Disk, addr, n int) ([]byte, api.Errno) {
	if e := ready(d); e != api.OK {
		return nil, e
	}
	if n < 0 || !within(d, addr, n) {
		return nil, api.ErrArg
	}
	var all []byte
	for i := 0; len(all) < n; i++ {
		s, e := d.Read(addr*api.PageSectors + i)
		if e != api.OK {
			return nil, e
		}
		all = append(all, s...)
	}
	return all[:n], api.OK
}

// ready tells disk's errors that hold wherever is read or written: they come ahead of a call's own.
func ready(d *disk.Disk) api.Errno {
	switch {
	case d == nil:
		return api.ErrArg
	case !d.On():
		return api.ErrStop
	}
	return api.OK
}

// within tells whether there are sectors for n bytes from a page on. No byte needs none.
func within(d *disk.Disk, addr, n int) bool {
	if n == 0 {
		return true
	}
	return addr >= 0 && addr < d.Pages() && n <= (d.Pages()-addr)*api.PageSize
}

func isKind(kind byte) bool {
	return kind == Super || kind == Leaf || kind == Inner || kind == Bitmap
}

// putHigh lays a number into all of b, the highest byte first.
func putHigh(b []byte, n uint64) {
	for i := len(b) - 1; i >= 0; i-- {
		b[i] = byte(n)
		n >>= 8
	}
}

// takeHigh is the number that putHigh laid.
func takeHigh(b []byte) uint64 {
	var n uint64
	for _, c := range b {
		n = n<<8 | uint64(c)
	}
	return n
}

// putLow lays a sum, the lowest byte first.
func putLow(b []byte, sum uint32) {
	for i := range b {
		b[i] = byte(sum >> (8 * i))
	}
}
