package txn

import (
	"bytes"
	"math"
	"slices"
	"testing"

	"rick/api"
	"rick/bitmap"
	"rick/crc"
	"rick/disk"
	"rick/node"
	"rick/page"
	"rick/super"
	"rick/tree"
)

// P16.1: what stands on each page behind Format, whatever stood there ahead.
func TestFormat(t *testing.T) {
	for _, pages := range []int{8, 9, 16, 511, 512} {
		image := bytes.Repeat([]byte{0xA5}, pages*api.PageSize)
		d := loaded(t, image)
		b, e := Format(d)
		if e != api.OK || d.Waiting() != 0 {
			t.Fatal(pages, e, d.Waiting())
		}
		s := super.Super{Gen: 1, Bitmap: 2, Pages: pages}
		if b.Free() != pages-3 || b.Super() != s {
			t.Error(pages, b.Free(), b.Super())
		}
		m := bitmap.New(pages)
		m.Used[2] = true
		clear(image[:256])
		body, _ := super.Put(s)
		copy(image[256:], made(t, page.Page{Kind: page.Super, Addr: 1, Gen: 1, Body: body}))
		copy(image[512:], made(t, page.Page{Kind: page.Bitmap, Addr: 2, Gen: 1, Body: bitmap.Put(m)}))
		if !bytes.Equal(d.Image(), image) {
			t.Error(pages, "other bytes")
		}
		wantBase(t, "formatted", b, d, 1, nil)
		wantMounted(t, "formatted", d, 1, nil)
	}
}

func made(t *testing.T, p page.Page) []byte {
	t.Helper()
	b, e := page.Put(crc.New(), p)
	if e != api.OK {
		t.Fatal(e)
	}
	return b
}

// P16.1: Format of a disk on which there is much: nothing of it is there.
func TestFormatAnew(t *testing.T) {
	for gens := range 4 {
		b, d := filled(t, 32, chunks(9, 300)...)
		for range gens {
			commit(t, begun(t, b))
		}
		b, e := Format(d)
		if e != api.OK || b.Free() != 29 {
			t.Fatal(e)
		}
		wantBase(t, "formatted", b, d, 1, nil)
		wantMounted(t, "formatted", d, 1, nil)
		x := begun(t, b)
		put(t, x, of(1, 0, 600))
		commit(t, x)
		wantMounted(t, "a chunk more", d, 2, []part{of(1, 0, 600)})
	}
}

// P16.1: disks that aren't there, or have no power.
func TestNoDisk(t *testing.T) {
	dark := fresh(t, 16)
	dark.Fail(0)
	dark.Flush()
	for _, c := range []struct {
		what   string
		d      *disk.Disk
		should api.Errno
	}{{"nil", nil, api.ErrArg}, {"never made", new(disk.Disk), api.ErrStop}, {"dark", dark, api.ErrStop}} {
		if b, e := Format(c.d); b != nil || e != c.should {
			t.Errorf("Format, %s: %t, %d", c.what, b != nil, e)
		}
		if b, e := Mount(c.d); b != nil || e != c.should {
			t.Errorf("Mount, %s: %t, %d", c.what, b != nil, e)
		}
	}
}

// P16.1: disks whose super or bitmap isn't right are not mounted.
func TestMountWrong(t *testing.T) {
	none := func(what string, d *disk.Disk) {
		t.Helper()
		before := d.Image()
		if b, e := Mount(d); b != nil || e != api.ErrForm {
			t.Errorf("%s: %t, %d", what, b != nil, e)
		}
		if d.Waiting() != 0 || !bytes.Equal(d.Image(), before) {
			t.Errorf("%s: something was written", what)
		}
	}
	none("never formatted", fresh(t, 8))
	none("of ones", loaded(t, bytes.Repeat([]byte{255}, 8*256)))
	right := bitmap.New(16)
	right.Used[2] = true
	body := bitmap.Put(right)
	more, less := right, right
	more.Pages, less.Pages = 17, 15
	spoiled := bytes.Clone(body)
	spoiled[2] &^= 1
	of := func(kind byte, beside int, body []byte) func(addr int) []byte {
		return func(addr int) []byte {
			return made(t, page.Page{Kind: kind, Addr: addr + beside, Gen: 1, Body: body})
		}
	}
	for _, c := range []struct {
		what string
		page func(addr int) []byte
	}{
		{"noughts", func(int) []byte { return make([]byte, 256) }},
		{"a leaf", of(page.Leaf, 0, body)},
		{"a super", of(page.Super, 0, body)},
		{"a page of another place", of(page.Bitmap, 1, body)},
		{"no body", of(page.Bitmap, 0, nil)},
		{"a body with more", of(page.Bitmap, 0, append(bytes.Clone(body), 0))},
		{"a body with less", of(page.Bitmap, 0, body[:3])},
		{"a super's page that is free", of(page.Bitmap, 0, spoiled)},
		{"a page more", of(page.Bitmap, 0, bitmap.Put(more))},
		{"a page less", of(page.Bitmap, 0, bitmap.Put(less))},
		{"a turned bit", func(addr int) []byte {
			b := of(page.Bitmap, 0, body)(addr)
			b[20] ^= 16
			return b
		}},
	} {
		_, d := formatted(t, 16)
		page.WriteRaw(d, 2, c.page(2))
		d.Flush()
		none(c.what, d)
		// A newer generation whose bitmap can't be read: the one ahead isn't taken for it.
		b, d := formatted(t, 16)
		commit(t, begun(t, b))
		page.WriteRaw(d, b.Super().Bitmap, c.page(b.Super().Bitmap))
		d.Flush()
		none(c.what+" in the second generation", d)
	}
	_, d := filled(t, 16, chunks(1, 5)...)
	page.WriteRaw(d, 0, make([]byte, 256))
	page.WriteRaw(d, 1, make([]byte, 256))
	d.Flush()
	none("without supers", d)
}

// P16.1 and P16.3: chunks of all sizes, in one Txn and in one each, are there behind Commit, and not ahead.
func TestPut(t *testing.T) {
	l := []part{of(7, 10, 1), of(7, 20, 255), of(7, 0, 256), of(6, 10, 257), of(0, -50, 512), of(0, -5, 513), of(api.MaxSeries, 0, 1000), of(9, 0, 7)}
	b, d := formatted(t, 64)
	x := begun(t, b)
	for i, p := range l {
		put(t, x, p)
		got, e := x.Entries()
		want(t, "Entries", e, api.OK)
		wantEntries(t, "in the Txn", got, x.Bytes, l[:i+1])
		wantBase(t, "ahead of Commit", b, d, 1, nil)
		if b.Free() != 61 {
			t.Error(b.Free())
		}
	}
	commit(t, x)
	wantBase(t, "behind Commit", b, d, 2, l)
	wantMounted(t, "behind Commit", d, 2, l)
	b, d = formatted(t, 64)
	for i, p := range l {
		x := begun(t, b)
		put(t, x, p)
		commit(t, x)
		wantBase(t, "one by one", b, d, uint64(i+2), l[:i+1])
		wantMounted(t, "one by one", d, uint64(i+2), l[:i+1])
	}
}

// P16.1: Addr, Len and Crc follow from the bytes, whatever the entry says of them; the bytes stand there, and noughts behind.
func TestPutFollows(t *testing.T) {
	for _, size := range []int{1, 255, 256, 257, 65535} {
		p := of(3, 5, size)
		b, d := formatted(t, 512)
		x := begun(t, b)
		p.e.Addr, p.e.Len, p.e.Crc = -7, math.MaxInt, 12345
		put(t, x, p)
		l, _ := x.Entries()
		want := p.e
		want.Addr, want.Len, want.Crc = 3, size, crc.Sum(crc.New(), p.b)
		if len(l) != 1 || l[0] != want {
			t.Fatal(size, l)
		}
		n := (size + 255) / 256
		raw, e := page.ReadRaw(d, 3, n*256)
		if e != api.OK || !bytes.Equal(raw, append(bytes.Clone(p.b), make([]byte, n*256-size)...)) {
			t.Error(size, "other bytes")
		}
		commit(t, x)
		wantMounted(t, "committed", d, 2, []part{p})
		if b.Free() != 512-2-n-1-1 {
			t.Error(size, b.Free())
		}
	}
}

// P16.1: entries that can't be are told so ahead of all else, and nothing is done.
func TestPutWrong(t *testing.T) {
	there := of(1, 0, 10)
	b, d := filled(t, 16, there)
	x := begun(t, b)
	refused := func(what string, e node.Entry, l []byte, should api.Errno) {
		t.Helper()
		waits, m := d.Waiting(), x.v.Map()
		want(t, what, x.Put(e, l), should)
		if d.Waiting() != waits || x.v.Map() != m {
			t.Errorf("%s: something was written", what)
		}
		got, e2 := x.Entries()
		want(t, what+": Entries", e2, api.OK)
		wantEntries(t, what, got, x.Bytes, []part{there})
	}
	five := make([]byte, 5)
	change := func(f func(e *node.Entry)) node.Entry {
		e := of(1, 500, 5).e
		f(&e)
		return e
	}
	for what, e := range map[string]node.Entry{
		"series -1":        change(func(e *node.Entry) { e.Key.Series = -1 }),
		"series 2^32":      change(func(e *node.Entry) { e.Key.Series = api.MaxSeries + 1 }),
		"end ahead":        change(func(e *node.Entry) { e.End = 499 }),
		"end least":        change(func(e *node.Entry) { e.End = math.MinInt64 }),
		"count 0":          change(func(e *node.Entry) { e.Count = 0 }),
		"count -1":         change(func(e *node.Entry) { e.Count = -1 }),
		"count 201":        change(func(e *node.Entry) { e.Count = 201 }),
		"codec -1":         change(func(e *node.Entry) { e.Codec = -1 }),
		"codec 16":         change(func(e *node.Entry) { e.Codec = 16 }),
		"nothing":          {},
		"one that's known": {Key: there.e.Key, End: 9, Count: 0},
		"one that meets":   {Key: node.Key{Series: 1, Start: 5}, End: 9, Count: 201},
	} {
		refused(what, e, five, api.ErrArg)
		refused(what+", of no byte", e, nil, api.ErrArg)
		refused(what+", with no room", e, make([]byte, 65535), api.ErrArg)
	}
	refused("no byte", of(1, 500, 5).e, nil, api.ErrArg)
	refused("no byte", of(1, 500, 5).e, []byte{}, api.ErrArg)
	refused("no byte, known", there.e, nil, api.ErrArg)
	refused("65536 bytes", of(1, 500, 5).e, make([]byte, 65536), api.ErrArg)
	refused("65536 bytes, known", there.e, make([]byte, 65536), api.ErrArg)
	refused("70000 bytes", of(1, 500, 5).e, make([]byte, 70000), api.ErrArg)
	for _, size := range []int{5, 16 * 256, 65535} {
		l := make([]byte, size)
		refused("known", there.e, l, api.ErrKnown)
		refused("known, of a longer span", node.Entry{Key: there.e.Key, End: 1000, Count: 1}, l, api.ErrKnown)
		for _, span := range [][2]int64{{-5, 0}, {-5, 5}, {-5, 500}, {1, 1}, {5, 9}, {9, 9}, {9, 10}, {math.MinInt64, 0}, {9, math.MaxInt64}, {math.MinInt64, math.MaxInt64}} {
			e := node.Entry{Key: node.Key{Series: 1, Start: span[0]}, End: span[1], Count: 1}
			refused("overlap", e, l, api.ErrOverlap)
		}
	}
	beside := []part{of(0, 0, 5), of(2, 0, 5), of(1, -10, 5), of(1, 10, 5)}
	put(t, x, beside...)
	commit(t, x)
	wantMounted(t, "beside", d, 3, append(beside, there))
}

// P16.1: an entry is known, and its span met, wherever in a tree of many leaves it stands, and whatever was dropped in the Txn.
func TestPutMany(t *testing.T) {
	l := chunks(40, 5)
	b, d := filled(t, 200, l...)
	x := begun(t, b)
	for k, p := range l {
		want(t, "known", x.Put(p.e, p.b), api.ErrKnown)
		for _, start := range []int{100*k - 9, 100*k - 1, 100*k + 1, 100*k + 9} {
			q := of(1, start, 5)
			want(t, "overlap", x.Put(q.e, q.b), api.ErrOverlap)
		}
	}
	if d.Waiting() != 0 {
		t.Error(d.Waiting())
	}
	drop(t, x, l[7], l[8])
	over := of(1, 705, 700)
	over.e.End = 899
	put(t, x, over)
	want(t, "overlap", x.Put(l[8].e, l[8].b), api.ErrOverlap)
	put(t, x, of(1, 695, 1))
	drop(t, x, of(1, 695, 1))
	put(t, x, of(1, 695, 600))
	commit(t, x)
	wantMounted(t, "in place of two", d, 3, append(slices.Delete(slices.Clone(l), 7, 9), over, of(1, 695, 600)))
}

// P16.1: Drop of what isn't there changes nothing.
func TestDropNone(t *testing.T) {
	b, d := formatted(t, 16)
	x := begun(t, b)
	want(t, "of none", x.Drop(node.Key{}), api.ErrNone)
	there := of(1, 0, 10)
	put(t, x, there)
	waits := d.Waiting()
	for _, k := range []node.Key{{}, {Series: 1, Start: 1}, {Series: 1, Start: -1}, {Series: 0, Start: 0}, {Series: 2, Start: 0}, {Series: -1, Start: 0}, {Series: math.MaxInt, Start: math.MaxInt64}, {Series: math.MinInt, Start: math.MinInt64}} {
		want(t, "another key", x.Drop(k), api.ErrNone)
	}
	if d.Waiting() != waits {
		t.Error("something was written")
	}
	drop(t, x, there)
	want(t, "twice", x.Drop(there.e.Key), api.ErrNone)
	put(t, x, of(1, 5, 700))
	commit(t, x)
	wantMounted(t, "dropped", d, 2, []part{of(1, 5, 700)})
}

// P16.1 and P16.3: Drop in the Txn of the Put, in the next one, of some, of all.
func TestDrop(t *testing.T) {
	l := chunks(30, 300)
	b, d := formatted(t, 200)
	x := begun(t, b)
	put(t, x, l...)
	drop(t, x, l[3], l[29], l[0])
	got, e := x.Entries()
	want(t, "Entries", e, api.OK)
	stay := slices.Concat(l[1:3], l[4:29])
	wantEntries(t, "in the Txn", got, x.Bytes, stay)
	commit(t, x)
	wantBase(t, "some", b, d, 2, stay)
	x = begun(t, b)
	drop(t, x, stay[5:20]...)
	wantBase(t, "ahead of Commit", b, d, 2, stay)
	commit(t, x)
	stay = slices.Concat(stay[:5], stay[20:])
	wantMounted(t, "more", d, 3, stay)
	x = begun(t, b)
	drop(t, x, stay...)
	commit(t, x)
	wantMounted(t, "all", d, 4, nil)
	if b.Free() != 197 || b.Super().Root != (tree.Root{}) {
		t.Error(b.Free(), b.Super())
	}
}

// P16.1: Bytes of entries whose bytes are other ones, and of entries that can't be.
func TestBytesWrong(t *testing.T) {
	p := of(1, 0, 300)
	b, d := filled(t, 16, p, of(1, 100, 256))
	x := begun(t, b)
	l, _ := x.Entries()
	right := l[0]
	refused := func(what string, e node.Entry, should api.Errno) {
		t.Helper()
		for _, f := range []func(node.Entry) ([]byte, api.Errno){b.Bytes, x.Bytes} {
			if got, err := f(e); len(got) != 0 || err != should {
				t.Errorf("%s: %v: %d bytes, %d", what, e, len(got), err)
			}
		}
	}
	refused("nothing", node.Entry{}, api.ErrForm)
	for _, change := range []func(e *node.Entry){
		func(e *node.Entry) { e.Crc ^= 1 },
		func(e *node.Entry) { e.Crc = 0 },
		func(e *node.Entry) { e.Len-- },
		func(e *node.Entry) { e.Len++ },
		func(e *node.Entry) { e.Addr++ },
		func(e *node.Entry) { e.Addr-- },
		func(e *node.Entry) { e.Key.Series = -1 },
		func(e *node.Entry) { e.End = -1 },
		func(e *node.Entry) { e.Count = 0 },
		func(e *node.Entry) { e.Count = 201 },
		func(e *node.Entry) { e.Codec = 16 },
		func(e *node.Entry) { e.Codec = -1 },
		func(e *node.Entry) { e.Addr = 1 },
		func(e *node.Entry) { e.Addr = 0 },
		func(e *node.Entry) { e.Addr = -1 },
		func(e *node.Entry) { e.Addr = 511 },
		func(e *node.Entry) { e.Addr = 512 },
		func(e *node.Entry) { e.Addr = math.MaxInt },
		func(e *node.Entry) { e.Len = 0 },
		func(e *node.Entry) { e.Len = -1 },
		func(e *node.Entry) { e.Len = 65536 },
		func(e *node.Entry) { e.Len = math.MaxInt },
	} {
		e := right
		change(&e)
		refused("another entry", e, api.ErrForm)
	}
	// What can be, but goes beyond this disk: the disk's error.
	beyond := right
	beyond.Addr = 15
	refused("beyond", beyond, api.ErrArg)
	beyond.Addr = 16
	refused("beyond", beyond, api.ErrArg)
	// What an entry says beside is not looked at.
	other := right
	other.Key, other.End, other.Count, other.Codec = node.Key{Series: 9, Start: 1}, 1, 200, 15
	if got, e := b.Bytes(other); e != api.OK || !bytes.Equal(got, p.b) {
		t.Error(got, e)
	}
	s, _ := d.Read(4*right.Addr + 4)
	s[43] ^= 1
	d.Write(4*right.Addr+4, s)
	refused("a turned bit", right, api.ErrForm)
	s[43] ^= 1
	s[44] ^= 1 // behind its last byte
	d.Write(4*right.Addr+4, s)
	if got, e := x.Bytes(right); e != api.OK || !bytes.Equal(got, p.b) {
		t.Error(got, e)
	}
}

// P16.1: there is one Txn at a time.
func TestBegin(t *testing.T) {
	b, d := formatted(t, 32)
	for i, end := range []func(x *Txn){
		func(x *Txn) { commit(t, x) },
		func(x *Txn) { x.Abort() },
		func(x *Txn) { want(t, "full", x.Put(of(1, 0, 0).e, make([]byte, pages(40))), api.ErrFull) },
	} {
		x := begun(t, b)
		for range 2 {
			if y, e := b.Begin(); y != nil || e != api.ErrState {
				t.Error(i, y != nil, e)
			}
		}
		put(t, x, of(2+i, 0, 5))
		end(x)
		wantOver(t, "ended", x)
		y := begun(t, b)
		wantOver(t, "ended, while there is another one", x)
		put(t, y, of(2+i, 100, 5))
		if l, e := y.Entries(); e != api.OK || len(l) != b.count(t)+1 {
			t.Error(i, l, e)
		}
		y.Abort()
		y.Abort()
	}
	wantMounted(t, "just the first one", d, 2, []part{of(2, 0, 5)})
}

// count is how many entries a Base has.
func (b *Base) count(t *testing.T) int {
	l, e := told(t, b)
	want(t, "Entries", e, api.OK)
	return len(l)
}

// P16.1 and P16.3: a Commit with nothing changed is a generation, and its bitmap stands elsewhere.
func TestCommitNothing(t *testing.T) {
	for _, l := range [][]part{nil, chunks(3, 300)} {
		b, d := formatted(t, 16)
		gen := uint64(1)
		if l != nil {
			x := begun(t, b)
			put(t, x, l...)
			commit(t, x)
			gen++
		}
		free := b.Free()
		for range 20 {
			at := b.Super().Bitmap
			commit(t, begun(t, b))
			gen++
			if b.Super().Bitmap == at || b.Free() != free || d.Waiting() != 0 {
				t.Error(b.Super(), b.Free(), d.Waiting())
			}
			wantBase(t, "nothing", b, d, gen, l)
			wantMounted(t, "nothing", d, gen, l)
		}
	}
}

// P16.1: what is aborted isn't there, and its pages are free.
func TestAbort(t *testing.T) {
	l := chunks(8, 300)
	b, d := filled(t, 64, l...)
	free, image := b.Free(), inUse(t, d, b)
	for range 5 {
		x := begun(t, b)
		put(t, x, of(9, 0, pages(20)))
		drop(t, x, l[:4]...)
		x.Abort()
		wantOver(t, "aborted", x)
		wantBase(t, "aborted", b, d, 2, l)
		if b.Free() != free || !bytes.Equal(inUse(t, d, b), image) {
			t.Error("something was changed")
		}
	}
	x := begun(t, b)
	put(t, x, of(9, 0, pages(20)))
	commit(t, x)
	wantMounted(t, "another one", d, 3, append(l, of(9, 0, pages(20))))
}

// P16.1: a Base and a Txn that aren't there, or were never made by a call.
func TestNil(t *testing.T) {
	for what, b := range map[string]*Base{"nil": nil, "never made": {}} {
		wantBaseTold(t, what, b, api.ErrArg)
		if b.Super() != (super.Super{}) || b.Free() != 0 {
			t.Error(what, b.Super(), b.Free())
		}
	}
	wantTold(t, "nil", nil, api.ErrArg)
	wantTold(t, "never made", new(Txn), api.ErrArg)
	wantTold(t, "of a Base that was never made", &Txn{b: new(Base)}, api.ErrArg)
}

// P16.1: nodes that can't be read are told, and change nothing.
func TestBadNode(t *testing.T) {
	l := chunks(20, 5)
	b, d := filled(t, 100, l...)
	v, _ := b.view(1)
	root, e := v.Node(b.Super().Root.Addr, false)
	if e != api.OK {
		t.Fatal(e)
	}
	last := root.Kids[len(root.Kids)-1]
	page.WriteRaw(d, last, make([]byte, 256))
	x := begun(t, b)
	got, e := told(t, b)
	if e != api.ErrForm || len(got) == 0 || len(got) == 20 {
		t.Error(got, e)
	}
	if got, e := x.Entries(); len(got) != 0 || e != api.ErrForm {
		t.Error(got, e)
	}
	waits := d.Waiting()
	behind := of(1, 5000, 5)
	want(t, "Put there", x.Put(behind.e, behind.b), api.ErrForm)
	want(t, "Drop there", x.Drop(l[19].e.Key), api.ErrForm)
	if d.Waiting() != waits {
		t.Error("something was written")
	}
	put(t, x, of(0, 0, 5))
	drop(t, x, l[0])
	page.WriteRaw(d, root.Kids[0], make([]byte, 256)) // it isn't the Txn's any more
	drop(t, x, of(0, 0, 5))
	page.WriteRaw(d, x.root.Addr, make([]byte, 256))
	want(t, "Put", x.Put(behind.e, behind.b), api.ErrForm)
	want(t, "Drop", x.Drop(l[1].e.Key), api.ErrForm)
	if got, e := x.Entries(); len(got) != 0 || e != api.ErrForm {
		t.Error(got, e)
	}
	x.Abort()
}

// P16.1: a node beside the way that can't be read is told when it is met, and nothing is in use for what isn't there.
func TestBadNodeBeside(t *testing.T) {
	d := fresh(t, 32)
	m := bitmap.New(32)
	lay := func(addr int, kind byte, n node.Node) {
		body, e := node.Put(n)
		want(t, "node", e, api.OK)
		want(t, "page", page.Write(crc.New(), d, page.Page{Kind: kind, Addr: addr, Gen: 1, Body: body}), api.OK)
	}
	there := of(1, 0, 5).e
	there.Addr, there.Len = 20, 5
	// Inner nodes of one child are joined with those beside them, when they are changed.
	lay(3, page.Leaf, node.Node{Leaf: true, Entries: []node.Entry{there, at(there, 100), at(there, 200)}})
	lay(4, page.Inner, node.Node{Keys: []node.Key{there.Key}, Kids: []int{3}})
	lay(6, page.Inner, node.Node{Keys: []node.Key{there.Key, {Series: 2}}, Kids: []int{4, 5}})
	for _, addr := range []int{2, 3, 4, 5, 6, 20} {
		m.Used[addr] = true
	}
	want(t, "bitmap", page.Write(crc.New(), d, page.Page{Kind: page.Bitmap, Addr: 2, Gen: 1, Body: bitmap.Put(m)}), api.OK)
	want(t, "super", super.Write(crc.New(), d, super.Super{Gen: 1, Root: tree.Root{Addr: 6, Height: 3}, Bitmap: 2, Pages: 32}), api.OK)
	x := begun(t, mounted(t, d))
	p := of(1, 300, 600)
	for range 2 {
		want(t, "Put", x.Put(p.e, p.b), api.ErrForm)
		want(t, "Drop", x.Drop(there.Key), api.ErrForm)
		if x.v.Map() != m || x.root.Addr != 6 {
			t.Error("something was changed")
		}
	}
}

// at is an entry at another time.
func at(e node.Entry, start int64) node.Entry {
	e.Key.Start, e.End = start, start+9
	return e
}

// P16.1: what a Txn writes is of the next generation; what it doesn't change stays as it was.
func TestGenerations(t *testing.T) {
	b, d := filled(t, 200, chunks(40, 5)...)
	root := func(should uint64) {
		t.Helper()
		p, e := page.Read(crc.New(), d, b.Super().Root.Addr, page.Inner)
		if e != api.OK || p.Gen != should {
			t.Error(p, e)
		}
		bitmapOf(t, d, b)
	}
	root(2)
	commit(t, begun(t, b))
	root(2)
	x := begun(t, b)
	put(t, x, of(0, 0, 5))
	commit(t, x)
	root(4)
	x = begun(t, b)
	drop(t, x, of(0, 0, 5))
	x.Abort()
	root(4)
	x = begun(t, b)
	drop(t, x, of(0, 0, 5))
	commit(t, x)
	root(5)
}

// P16.1: of pages that the bitmap hasn't in use none is given back, and no call panics.
func TestOddBitmap(t *testing.T) {
	b, d := filled(t, 16, of(1, 0, 300), of(1, 100, 5))
	m := bitmap.New(16)
	s := b.Super()
	page.Write(crc.New(), d, page.Page{Kind: page.Bitmap, Addr: s.Bitmap, Gen: s.Gen, Body: bitmap.Put(m)})
	d.Flush()
	b = mounted(t, d)
	if b.Free() != 14 {
		t.Error(b.Free())
	}
	x := begun(t, b)
	want(t, "Drop", x.Drop(node.Key{Series: 1}), api.OK)
	if l, e := x.Entries(); e != api.OK || len(l) != 1 {
		t.Error(l, e)
	}
	want(t, "Commit", x.Commit(), api.OK)
}

// P16.1: behind the last generation there is none; nothing is written for it.
func TestLastGeneration(t *testing.T) {
	b, d := formatted(t, 16)
	s := b.Super()
	s.Gen = math.MaxUint64
	super.Write(crc.New(), d, s)
	d.Flush()
	b = mounted(t, d)
	x := begun(t, b)
	put(t, x, of(1, 0, 5))
	waits := d.Waiting()
	want(t, "Commit", x.Commit(), api.ErrArg)
	if d.Waiting() != waits {
		t.Error("something was written")
	}
	x.Abort()
	if b := mounted(t, loaded(t, d.Image())); b.Super() != s || b.count(t) != 0 {
		t.Error(b.Super())
	}
}

// P16.1: who breaks off is told no more; an iterator may be asked again, and by two.
func TestEntries(t *testing.T) {
	l := chunks(30, 5)
	b, d := filled(t, 200, l...)
	all := b.Entries()
	for range 2 {
		n := 0
		for x, e := range all {
			if e != api.OK || x.Key != l[n].e.Key {
				t.Fatal(x, e)
			}
			m := 0
			for range all {
				if m++; m == 3 {
					break
				}
			}
			if n++; n == 12 {
				break
			}
		}
	}
	// It tells what is the Base's when it is asked.
	x := begun(t, b)
	drop(t, x, l[1:]...)
	commit(t, x)
	for x, e := range all {
		if e != api.OK || x.Key != l[0].e.Key {
			t.Error(x, e)
		}
	}
	d.Fail(0)
	d.Flush()
	n := 0
	for x, e := range all {
		if n++; x != (node.Entry{}) || e != api.ErrStop {
			t.Error(x, e)
		}
	}
	if n != 1 {
		t.Error(n)
	}
}

// P16.4: what is handed in isn't kept or changed.
func TestHandedIn(t *testing.T) {
	p := of(1, 0, 300)
	b, d := formatted(t, 32)
	x := begun(t, b)
	room := bytes.Repeat([]byte{9}, 1000)
	copy(room, p.b)
	was := bytes.Clone(room)
	want(t, "Put", x.Put(p.e, room[:300]), api.OK)
	if !bytes.Equal(room, was) {
		t.Error("changed")
	}
	clear(room)
	commit(t, x)
	wantMounted(t, "put", d, 2, []part{p})
}

// P16.4: answers are new memory.
func TestAnswers(t *testing.T) {
	l := chunks(9, 300)
	b, d := filled(t, 64, l...)
	x := begun(t, b)
	for range 2 {
		got, _ := x.Entries()
		wantEntries(t, "Entries", got, x.Bytes, l)
		one, _ := x.Bytes(got[0])
		two, _ := b.Bytes(got[0])
		clear(one[:cap(one)])
		if !bytes.Equal(two, l[0].b) {
			t.Error("shared")
		}
		clear(two[:cap(two)])
		clear(got[:cap(got)])
	}
	wantBase(t, "Bytes", b, d, 2, l)
}
