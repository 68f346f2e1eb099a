package txn

import (
	"bytes"
	"math/rand/v2"
	"slices"
	"testing"

	"rick/api"
	"rick/bitmap"
	"rick/crc"
	"rick/disk"
	"rick/node"
	"rick/page"
	"rick/tree"
)

// part is a chunk: what Put is handed.
type part struct {
	e node.Entry
	b []byte
}

// of is a chunk of a series, of so many bytes, whose span is ten times.
func of(series, start, size int) part {
	b := make([]byte, size)
	for i := range b {
		b[i] = byte(31*series + 7*start + i + i>>8)
	}
	e := node.Entry{Key: node.Key{Series: series, Start: int64(start)}, End: int64(start) + 9, Count: 1 + size%200, Codec: size % 16}
	return part{e, b}
}

// chunks is n chunks of series 1, of so many bytes.
func chunks(n, size int) []part {
	var l []part
	for k := range n {
		l = append(l, of(1, 100*k, size))
	}
	return l
}

// pages is so many pages' bytes.
func pages(n int) int { return n * api.PageSize }

func fresh(t *testing.T, pages int) *disk.Disk {
	t.Helper()
	d, e := disk.New(pages)
	if e != api.OK {
		t.Fatal(e)
	}
	return d
}

func loaded(t *testing.T, image []byte) *disk.Disk {
	t.Helper()
	d, e := disk.Load(image)
	if e != api.OK {
		t.Fatal(e)
	}
	return d
}

func formatted(t *testing.T, pages int) (*Base, *disk.Disk) {
	t.Helper()
	d := fresh(t, pages)
	b, e := Format(d)
	if e != api.OK {
		t.Fatal(e)
	}
	return b, d
}

func mounted(t *testing.T, d *disk.Disk) *Base {
	t.Helper()
	b, e := Mount(d)
	if e != api.OK {
		t.Fatal(e)
	}
	return b
}

func begun(t *testing.T, b *Base) *Txn {
	t.Helper()
	x, e := b.Begin()
	if e != api.OK {
		t.Fatal(e)
	}
	return x
}

// put, drop and commit are calls that have to be done.
func put(t *testing.T, x *Txn, l ...part) {
	t.Helper()
	for _, p := range l {
		if e := x.Put(p.e, p.b); e != api.OK {
			t.Fatalf("Put of %v: %d", p.e, e)
		}
	}
}

func drop(t *testing.T, x *Txn, l ...part) {
	t.Helper()
	for _, p := range l {
		if e := x.Drop(p.e.Key); e != api.OK {
			t.Fatalf("Drop of %v: %d", p.e.Key, e)
		}
	}
}

func commit(t *testing.T, x *Txn) {
	t.Helper()
	if e := x.Commit(); e != api.OK {
		t.Fatalf("Commit: %d", e)
	}
}

// filled is a Base with these chunks, put in one Txn.
func filled(t *testing.T, pages int, l ...part) (*Base, *disk.Disk) {
	t.Helper()
	b, d := formatted(t, pages)
	x := begun(t, b)
	put(t, x, l...)
	commit(t, x)
	return b, d
}

func want(t *testing.T, what string, got, should api.Errno) {
	t.Helper()
	if got != should {
		t.Errorf("%s: %d, not %d", what, got, should)
	}
}

// told is what a Base's iterator tells, and the error at which it ended.
func told(t *testing.T, b *Base) ([]node.Entry, api.Errno) {
	t.Helper()
	var l []node.Entry
	ended := api.OK
	for x, e := range b.Entries() {
		if ended != api.OK || e != api.OK && x != (node.Entry{}) {
			t.Fatalf("%v, %d behind the error %d", x, e, ended)
		}
		ended = e
		if e == api.OK {
			l = append(l, x)
		}
	}
	return l, ended
}

// sorted is chunks by their keys, rising.
func sorted(l []part) []part {
	l = slices.Clone(l)
	slices.SortFunc(l, func(p, q part) int {
		switch {
		case node.Less(p.e.Key, q.e.Key):
			return -1
		case node.Less(q.e.Key, p.e.Key):
			return 1
		}
		return 0
	})
	return l
}

// wantEntries looks whether entries are just these chunks', rising, and tell of the bytes that were put.
func wantEntries(t *testing.T, what string, l []node.Entry, bytesOf func(node.Entry) ([]byte, api.Errno), should []part) {
	t.Helper()
	should = sorted(should)
	if len(l) != len(should) {
		t.Fatalf("%s: %d entries, not %d: %v", what, len(l), len(should), l)
	}
	for i, p := range should {
		p.e.Addr, p.e.Len, p.e.Crc = l[i].Addr, len(p.b), crc.Sum(crc.New(), p.b)
		if l[i] != p.e {
			t.Fatalf("%s: %v, not %v", what, l[i], p.e)
		}
		got, e := bytesOf(l[i])
		if e != api.OK || !bytes.Equal(got, p.b) {
			t.Fatalf("%s: Bytes of %v: %d bytes, %d", what, l[i], len(got), e)
		}
	}
}

// wantBase looks whether a Base has just these chunks, and just the pages in use that it tells of, each once.
func wantBase(t *testing.T, what string, b *Base, d *disk.Disk, gen uint64, should []part) {
	t.Helper()
	l, e := told(t, b)
	want(t, what+": Entries", e, api.OK)
	wantEntries(t, what, l, b.Bytes, should)
	if b.Super().Gen != gen {
		t.Fatalf("%s: generation %d, not %d", what, b.Super().Gen, gen)
	}
	m := bitmapOf(t, d, b)
	if tells := tellsOf(t, d, b, l); m != tells {
		t.Fatalf("%s: in use are %v, told of are %v", what, m.Used[:m.Pages], tells.Used[:m.Pages])
	}
	if b.Free() != bitmap.Free(m) {
		t.Fatalf("%s: %d are free, not %d", what, b.Free(), bitmap.Free(m))
	}
}

// bitmapOf is the bitmap that stands where a Base's super says.
func bitmapOf(t *testing.T, d *disk.Disk, b *Base) bitmap.Map {
	t.Helper()
	p, e := page.Read(crc.New(), d, b.Super().Bitmap, page.Bitmap)
	if e != api.OK || p.Gen != b.Super().Gen {
		t.Fatalf("%v, %d", p, e)
	}
	m, e := bitmap.Get(p.Body)
	if e != api.OK || m.Pages != d.Pages() {
		t.Fatalf("%v, %d", m, e)
	}
	return m
}

// tellsOf is the pages of which a Base tells: supers, bitmap, nodes and chunks, none of them twice.
func tellsOf(t *testing.T, d *disk.Disk, b *Base, l []node.Entry) bitmap.Map {
	t.Helper()
	all := bitmap.New(d.Pages())
	v, e := tree.Open(crc.New(), d, 1, all, all)
	if e != api.OK {
		t.Fatal(e)
	}
	nodes, e := v.Pages(b.Super().Root)
	if e != api.OK {
		t.Fatal(e)
	}
	use := append(nodes, b.Super().Bitmap)
	for _, x := range l {
		for i := range node.Pages(x) {
			use = append(use, x.Addr+i)
		}
	}
	for _, addr := range use {
		if all.Used[addr] {
			t.Fatalf("page %d twice", addr)
		}
		all.Used[addr] = true
	}
	return all
}

// wantMounted looks whether Mount of a disk as it would be without the cache finds this, and so does Mount of the disk itself.
func wantMounted(t *testing.T, what string, d *disk.Disk, gen uint64, should []part) {
	t.Helper()
	cold := loaded(t, d.Image())
	wantBase(t, what+", mounted from its image", mounted(t, cold), cold, gen, should)
	wantBase(t, what+", mounted", mounted(t, d), d, gen, should)
}

// wantOver looks whether a Txn that is over tells so by each call.
func wantOver(t *testing.T, what string, x *Txn) {
	t.Helper()
	wantTold(t, what+", over", x, api.ErrState)
}

// wantTold looks whether each call of a Txn tells an error, and nothing else, whatever it is given.
func wantTold(t *testing.T, what string, x *Txn, should api.Errno) {
	t.Helper()
	p := of(5, 5, 5)
	want(t, what+": Put", x.Put(p.e, p.b), should)
	want(t, what+": Put of what can't be", x.Put(node.Entry{Count: -1}, nil), should)
	want(t, what+": Drop", x.Drop(p.e.Key), should)
	want(t, what+": Commit", x.Commit(), should)
	l, e := x.Entries()
	if e != should || len(l) != 0 {
		t.Errorf("%s: Entries: %v, %d, not %d", what, l, e, should)
	}
	for _, p.e.Len = range []int{0, 5} {
		p.e.Addr = 3
		b, e := x.Bytes(p.e)
		if e != should || len(b) != 0 {
			t.Errorf("%s: Bytes: %v, %d, not %d", what, b, e, should)
		}
	}
	x.Abort()
}

// wantBaseTold looks whether each call of a Base that can tells an error, and nothing else.
func wantBaseTold(t *testing.T, what string, b *Base, should api.Errno) {
	t.Helper()
	if x, e := b.Begin(); x != nil || e != should {
		t.Errorf("%s: Begin: %t, %d, not %d", what, x != nil, e, should)
	}
	e := of(5, 5, 5).e
	for _, e.Len = range []int{0, 5} {
		e.Addr = 3
		l, err := b.Bytes(e)
		if err != should || len(l) != 0 {
			t.Errorf("%s: Bytes: %v, %d, not %d", what, l, err, should)
		}
	}
	for range 2 {
		if l, e := told(t, b); len(l) != 0 || e != should {
			t.Errorf("%s: Entries: %v, %d, not %d", what, l, e, should)
		}
	}
	for x, e := range b.Entries() {
		if x != (node.Entry{}) || e != should {
			t.Errorf("%s: Entries: %v, %d, not %d", what, x, e, should)
		}
		break
	}
}

// inUse is what stands in the pages that a Base's generation has in use, but the place of the next super.
func inUse(t *testing.T, d *disk.Disk, b *Base) []byte {
	t.Helper()
	m := bitmapOf(t, d, b)
	m.Used[(b.Super().Gen+1)%2] = false
	return standsIn(t, d, m)
}

// standsIn is what stands in the pages that a map has in use.
func standsIn(t *testing.T, d *disk.Disk, m bitmap.Map) []byte {
	t.Helper()
	var all []byte
	for addr := range m.Pages {
		if !m.Used[addr] {
			continue
		}
		l, e := page.ReadRaw(d, addr, api.PageSize)
		if e != api.OK {
			t.Fatal(e)
		}
		all = append(all, l...)
	}
	return all
}

// ways is what may be kept of so many writes that wait: nothing, all, the first ones, the last ones, all but one, and parts.
func ways(r *rand.Rand, waiting int) [][]disk.Fate {
	every := make([]disk.Fate, waiting)
	for i := range every {
		every[i] = disk.Fate{Keep: true, Atoms: 255}
	}
	all := [][]disk.Fate{nil, every}
	for range 3 {
		some, torn, later := slices.Clone(every), slices.Clone(every), slices.Clone(every)
		for i := range some {
			some[i].Keep = r.IntN(2) == 0
			torn[i] = disk.Fate{Keep: r.IntN(4) > 0, Atoms: uint8(r.Uint32())}
		}
		from := r.IntN(waiting + 1)
		clear(later[:from])
		all = append(all, some, torn, later, every[:from])
	}
	if waiting > 0 {
		but := slices.Clone(every)
		but[r.IntN(waiting)].Keep = false
		last := slices.Clone(every)
		last[waiting-1].Atoms = uint8(r.Uint32())
		all = append(all, but, last)
	}
	return all
}
