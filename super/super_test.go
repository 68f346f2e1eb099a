package super

import (
	"bytes"
	"math"
	"math/rand/v2"
	"slices"
	"testing"

	"rick/api"
	"rick/crc"
	"rick/disk"
	"rick/page"
	"rick/tree"
)

// fresh is a disk of so many pages.
func fresh(t *testing.T, pages int) *disk.Disk {
	t.Helper()
	d, e := disk.New(pages)
	if e != api.OK {
		t.Fatal(e)
	}
	return d
}

// of is a Super of a disk of 16 pages.
func of(gen uint64) Super {
	return Super{Gen: gen, Root: tree.Root{Addr: 5, Height: 1}, Bitmap: 7, Pages: 16}
}

// laid is a Super's bytes as the chapter tells them, of whatever parts.
func laid(gen uint64, addr, height, bitmap, pages int) []byte {
	var b []byte
	for k := 56; k >= 0; k -= 8 {
		b = append(b, byte(gen>>k))
	}
	return append(b, byte(addr>>8), byte(addr), byte(height), byte(bitmap>>8), byte(bitmap), byte(pages>>8), byte(pages))
}

// craft writes a page of whatever kind, place and generation, with whatever body.
func craft(t *testing.T, d *disk.Disk, kind byte, addr int, gen uint64, body []byte) {
	t.Helper()
	if e := page.Write(crc.New(), d, page.Page{Kind: kind, Addr: addr, Gen: gen, Body: body}); e != api.OK {
		t.Fatal(e)
	}
}

// write is Write that has to be done, to stay.
func write(t *testing.T, d *disk.Disk, s Super) {
	t.Helper()
	if e := Write(crc.New(), d, s); e != api.OK {
		t.Fatal(e)
	}
	if e := d.Flush(); e != api.OK {
		t.Fatal(e)
	}
}

func wantNewest(t *testing.T, what string, d *disk.Disk, should Super, shouldTell api.Errno) {
	t.Helper()
	if s, e := Newest(crc.New(), d); s != should || e != shouldTell {
		t.Errorf("%s: %v, %d; not %v, %d", what, s, e, should, shouldTell)
	}
}

// can are Supers that can be, each at an edge.
func can() []Super {
	root := func(addr, height int) tree.Root { return tree.Root{Addr: addr, Height: height} }
	return []Super{
		{1, root(0, 0), 2, 8},
		{1, root(0, 0), 7, 8},
		{1, root(0, 0), 511, 512},
		{2, root(2, 1), 3, 8},
		{3, root(7, 1), 2, 8},
		{3, root(2, 5), 7, 8},
		{4, root(511, 1), 2, 512},
		{5, root(511, 5), 510, 512},
		{6, root(2, 2), 511, 512},
		{7, root(300, 3), 258, 400},
		{0x0102030405060708, root(258, 4), 259, 260},
		{math.MaxUint64 - 1, root(0, 0), 2, 8},
		{math.MaxUint64, root(511, 5), 2, 512},
	}
}

// cannot are Supers that can't be, each for one thing.
func cannot() []Super {
	root := func(addr, height int) tree.Root { return tree.Root{Addr: addr, Height: height} }
	return []Super{
		{},
		{0, root(5, 1), 7, 16},
		{1, root(5, -1), 7, 16},
		{1, root(0, -1), 7, 16},
		{1, root(5, math.MinInt), 7, 16},
		{1, root(5, 6), 7, 16},
		{1, root(5, 256), 7, 16},
		{1, root(5, 257), 7, 16},
		{1, root(5, math.MaxInt), 7, 16},
		{1, root(1, 0), 7, 16},
		{1, root(2, 0), 7, 16},
		{1, root(-1, 0), 7, 16},
		{1, root(511, 0), 7, 512},
		{1, root(512, 0), 7, 512},
		{1, root(16, 0), 7, 16},
		{1, root(0, 1), 7, 16},
		{1, root(1, 1), 7, 16},
		{1, root(-1, 1), 7, 16},
		{1, root(math.MinInt, 1), 7, 16},
		{1, root(16, 1), 7, 16},
		{1, root(511, 1), 7, 511},
		{1, root(512, 1), 7, 512},
		{1, root(512, 5), 7, 513},
		{1, root(65536+5, 1), 7, 16},
		{1, root(math.MaxInt, 1), 7, 16},
		{1, root(5, 1), -1, 16},
		{1, root(5, 1), 0, 16},
		{1, root(5, 1), 1, 16},
		{1, root(5, 1), 16, 16},
		{1, root(5, 1), 17, 16},
		{1, root(5, 1), 512, 512},
		{1, root(5, 1), 65536 + 7, 16},
		{1, root(5, 1), 5, 16},
		{1, root(0, 0), 0, 16},
		{1, root(2, 1), 3, 7},
		{1, root(2, 1), 3, 0},
		{1, root(2, 1), 3, -8},
		{1, root(2, 1), 3, 513},
		{1, root(2, 1), 3, 65536 + 16},
		{1, root(0, 0), 2, 7},
		{1, root(0, 0), 2, 513},
	}
}

// P15.1: of all that can be, the bytes are the chapter's, and are told back.
func TestPutGet(t *testing.T) {
	for _, s := range can() {
		b, e := Put(s)
		if e != api.OK || !bytes.Equal(b, laid(s.Gen, s.Root.Addr, s.Root.Height, s.Bitmap, s.Pages)) {
			t.Errorf("%v: %v, %d", s, b, e)
		}
		if got, e := Get(b); e != api.OK || got != s {
			t.Errorf("%v: %v, %d", s, got, e)
		}
	}
	b, _ := Put(Super{1, tree.Root{Addr: 258, Height: 3}, 259, 260})
	if !bytes.Equal(b, []byte{0, 0, 0, 0, 0, 0, 0, 1, 1, 2, 3, 1, 3, 1, 4}) {
		t.Error(b)
	}
}

// P15.1: each part goes from edge to edge, and no farther.
func TestPutEdges(t *testing.T) {
	whether := func(s Super, should bool) {
		t.Helper()
		if _, e := Put(s); (e == api.OK) != should || (e == api.ErrArg) == should {
			t.Errorf("%v: %d", s, e)
		}
	}
	for _, pages := range []int{7, 8, 9, 16, 511, 512, 513} {
		right := pages >= 8 && pages <= 512
		for _, addr := range []int{-1, 0, 1, 2, 3, pages - 1, pages, pages + 1, 511, 512} {
			stands := addr >= 2 && addr < pages
			for height := -1; height <= 6; height++ {
				should := right && (height == 0 && addr == 0 || height >= 1 && height <= 5 && stands)
				whether(Super{1, tree.Root{Addr: addr, Height: height}, 4, pages}, should)
			}
			whether(Super{1, tree.Root{}, addr, pages}, right && stands)
			whether(Super{1, tree.Root{Addr: 4, Height: 1}, addr, pages}, right && stands && addr != 4)
			whether(Super{0, tree.Root{}, addr, pages}, false)
		}
	}
}

// P15.1: what can't be has no bytes, and bytes of such are none's.
func TestWrong(t *testing.T) {
	for _, s := range cannot() {
		if b, e := Put(s); b != nil || e != api.ErrArg {
			t.Errorf("%v: %v, %d", s, b, e)
		}
		b := laid(s.Gen, s.Root.Addr, s.Root.Height, s.Bitmap, s.Pages)
		fits := s.Root.Addr>>16 == 0 && s.Root.Height>>8 == 0 && s.Bitmap>>16 == 0 && s.Pages>>16 == 0
		if got, e := Get(b); fits && (e != api.ErrForm || got != (Super{})) {
			t.Errorf("%v: %v, %d", b, got, e)
		}
	}
}

// P15.1: bytes cut off at each place, or with more behind, are none's.
func TestGetWrong(t *testing.T) {
	b, _ := Put(of(258))
	for n := range b {
		if s, e := Get(b[:n]); e != api.ErrForm || s != (Super{}) {
			t.Errorf("%d bytes: %v, %d", n, s, e)
		}
	}
	for _, more := range [][]byte{{0}, {1}, make([]byte, 15), make([]byte, 223)} {
		if s, e := Get(append(bytes.Clone(b), more...)); e != api.ErrForm || s != (Super{}) {
			t.Errorf("%v behind: %v, %d", more, s, e)
		}
	}
	for at := range len(b) + 1 {
		for _, c := range []byte{0, 1} {
			if s, e := Get(slices.Insert(bytes.Clone(b), at, c)); e != api.ErrForm || s != (Super{}) {
				t.Errorf("%d at %d: %v, %d", c, at, s, e)
			}
		}
	}
	if s, e := Get(nil); e != api.ErrForm || s != (Super{}) {
		t.Error(s, e)
	}
	if s, e := Get(bytes.Repeat([]byte{255}, 15)); e != api.ErrForm || s != (Super{}) {
		t.Error(s, e)
	}
}

// P15.1: whatever bytes are a Super's are just what it is put as.
func TestGetWhatever(t *testing.T) {
	r := rand.New(rand.NewPCG(15, 1))
	right := 0
	for range 200000 {
		b := laid(r.Uint64N(3), r.IntN(12), r.IntN(8), r.IntN(12), r.IntN(12))
		b[r.IntN(len(b))] ^= byte(r.Uint32() & r.Uint32() & r.Uint32())
		s, e := Get(b)
		if e != api.OK {
			if e != api.ErrForm || s != (Super{}) {
				t.Fatalf("%v: %v, %d", b, s, e)
			}
			continue
		}
		right++
		if got, e := Put(s); e != api.OK || !bytes.Equal(got, b) {
			t.Fatalf("%v: %v: %v, %d", b, s, got, e)
		}
	}
	if right < 1000 {
		t.Error(right)
	}
}

// P15.3: what is handed in isn't kept or changed, and answers are new memory.
func TestMemory(t *testing.T) {
	a, _ := Put(of(1))
	b, _ := Put(of(1))
	clear(a[:cap(a)])
	if got, e := Get(b); e != api.OK || got != of(1) {
		t.Error(got, e)
	}
	spare := append(append(make([]byte, 0, 64), b...), bytes.Repeat([]byte{9}, 49)...)
	was := bytes.Clone(spare)
	s, _ := Get(spare[:len(b)])
	if !bytes.Equal(spare, was) {
		t.Error("changed")
	}
	clear(spare)
	if s != of(1) {
		t.Error(s)
	}
}

// P15.1: odd generations stand at 1, even ones at 0, each as a page of kind S with its generation.
func TestWrite(t *testing.T) {
	c := crc.New()
	for _, gen := range []uint64{1, 2, 3, 4, 255, 256, math.MaxUint64 - 1, math.MaxUint64} {
		d := fresh(t, 16)
		before, _ := page.ReadRaw(d, 0, 16*256)
		if e := Write(c, d, of(gen)); e != api.OK {
			t.Fatal(gen, e)
		}
		if d.Waiting() != 4 {
			t.Error(gen, "waiting", d.Waiting())
		}
		at := int(gen % 2)
		p, e := page.Read(c, d, at, page.Super)
		if e != api.OK || p.Gen != gen || !bytes.Equal(p.Body, laid(gen, 5, 1, 7, 16)) {
			t.Error(gen, p, e)
		}
		after, _ := page.ReadRaw(d, 0, 16*256)
		clear(after[at*256 : at*256+256])
		if !bytes.Equal(before, after) {
			t.Error(gen, "more was written")
		}
		wantNewest(t, "written", d, of(gen), api.OK)
	}
}

// P15.1: what can't be is refused, and nothing is written; disk's errors are told ahead.
func TestWriteWrong(t *testing.T) {
	c := crc.New()
	dark := fresh(t, 16)
	dark.Fail(0)
	dark.Flush()
	for _, s := range cannot() {
		d := fresh(t, 16)
		if e := Write(c, d, s); e != api.ErrArg || d.Waiting() != 0 {
			t.Errorf("%v: %d", s, e)
		}
		if e := Write(c, nil, s); e != api.ErrArg {
			t.Errorf("%v, no disk: %d", s, e)
		}
		if e := Write(c, dark, s); e != api.ErrStop {
			t.Errorf("%v, no power: %d", s, e)
		}
	}
	if e := Write(c, nil, of(1)); e != api.ErrArg {
		t.Error(e)
	}
	if e := Write(c, dark, of(1)); e != api.ErrStop {
		t.Error(e)
	}
	if e := Write(c, new(disk.Disk), of(1)); e != api.ErrStop {
		t.Error(e)
	}
	for steps := range 4 {
		d := fresh(t, 16)
		d.Fail(steps)
		if e := Write(c, d, of(1)); e != api.ErrStop || d.Waiting() != steps {
			t.Error(steps, e, d.Waiting())
		}
	}
}

// P15.1: the greater of two generations counts, or the only one that is right.
func TestNewest(t *testing.T) {
	d := fresh(t, 16)
	wantNewest(t, "noughts", d, Super{}, api.ErrForm)
	for _, gen := range []uint64{1, 2, 3, 4, 7, 8, 256, 255, 257} {
		write(t, d, of(gen))
		wantNewest(t, "next", d, of(max(gen, 256*(gen/255))), api.OK)
	}
	for _, pair := range [][2]uint64{{1, 2}, {2, 3}, {255, 256}, {math.MaxUint64 - 1, math.MaxUint64}, {1, math.MaxUint64 - 1}, {1<<63 - 1, 1 << 63}} {
		for _, other := range []bool{false, true} {
			d := fresh(t, 16)
			first, second := of(pair[0]), of(pair[1])
			if other {
				first, second = second, first
			}
			write(t, d, first)
			wantNewest(t, "one", d, first, api.OK)
			write(t, d, second)
			wantNewest(t, "two", d, of(pair[1]), api.OK)
		}
	}
}

// P15.1: a page that isn't right for one thing doesn't count, whether the other one is right or not.
func TestNewestWrong(t *testing.T) {
	body := func(gen uint64) []byte { return laid(gen, 5, 1, 7, 16) }
	made := func(addr int, kind byte, gen uint64, body []byte) []byte {
		b, e := page.Put(crc.New(), page.Page{Kind: kind, Addr: addr, Gen: gen, Body: body})
		if e != api.OK {
			t.Fatal(e)
		}
		return b
	}
	turned := made(1, page.Super, 11, body(11))
	turned[255] ^= 1
	for _, w := range []struct {
		what string
		at   int
		page []byte
	}{
		{"an even one at 1", 1, made(1, page.Super, 10, body(10))},
		{"an odd one at 0", 0, made(0, page.Super, 11, body(11))},
		{"a leaf", 0, made(0, page.Leaf, 10, body(10))},
		{"a bitmap", 1, made(1, page.Bitmap, 11, body(11))},
		{"an inner node", 1, made(1, page.Inner, 11, body(11))},
		{"a body of a greater generation", 0, made(0, page.Super, 10, body(12))},
		{"a body of a smaller generation", 1, made(1, page.Super, 13, body(11))},
		{"an even body in an odd page at 0", 0, made(0, page.Super, 11, body(10))},
		{"an odd body in an even page at 0", 0, made(0, page.Super, 10, body(11))},
		{"an even body in an odd page at 1", 1, made(1, page.Super, 11, body(10))},
		{"an odd body in an even page at 1", 1, made(1, page.Super, 10, body(11))},
		{"more pages than the disk's", 0, made(0, page.Super, 10, laid(10, 5, 1, 7, 17))},
		{"fewer pages than the disk's", 1, made(1, page.Super, 11, laid(11, 5, 1, 7, 15))},
		{"generation 0", 0, made(0, page.Super, 0, body(0))},
		{"no body", 0, made(0, page.Super, 10, nil)},
		{"a body with more", 0, made(0, page.Super, 10, append(body(10), 0))},
		{"a body with less", 1, made(1, page.Super, 11, body(11)[:14])},
		{"a tree where the bitmap is", 1, made(1, page.Super, 11, laid(11, 7, 1, 7, 16))},
		{"a page of another place", 0, made(2, page.Super, 10, body(10))},
		{"a page of the other place", 1, made(0, page.Super, 11, body(11))},
		{"a sum that isn't right", 1, turned},
		{"noughts", 0, make([]byte, 256)},
	} {
		d := fresh(t, 16)
		page.WriteRaw(d, w.at, w.page)
		wantNewest(t, w.what+" alone", d, Super{}, api.ErrForm)
		right := of(uint64(1 + w.at)) // at the other place
		write(t, d, right)
		wantNewest(t, w.what+" and a right one", d, right, api.OK)
	}
	d := fresh(t, 16)
	craft(t, d, page.Super, 0, 11, body(11))
	craft(t, d, page.Super, 1, 10, body(10))
	wantNewest(t, "both at the other's place", d, Super{}, api.ErrForm)
}

// P15.1: disk's errors are told ahead; the sum is the handed table's.
func TestNewestDisk(t *testing.T) {
	wantNewest(t, "no disk", nil, Super{}, api.ErrArg)
	wantNewest(t, "a disk that was never made", new(disk.Disk), Super{}, api.ErrStop)
	d := fresh(t, 16)
	write(t, d, of(1))
	d.Fail(0)
	d.Flush()
	wantNewest(t, "no power", d, Super{}, api.ErrStop)
	d.Crash(nil)
	wantNewest(t, "power again", d, of(1), api.OK)
	if s, e := Newest(crc.Table{}, d); e != api.ErrForm || s != (Super{}) {
		t.Error(s, e)
	}
	if e := Write(crc.Table{}, d, of(2)); e != api.OK {
		t.Error(e)
	}
	wantNewest(t, "a page of another table", d, of(1), api.OK)
	if s, e := Newest(crc.Table{}, d); e != api.OK || s != of(2) {
		t.Error(s, e)
	}
}

// P15.1: a Super of another count of pages may be written, but doesn't count there.
func TestOtherPages(t *testing.T) {
	d := fresh(t, 16)
	s := of(1)
	s.Pages = 17
	if e := Write(crc.New(), d, s); e != api.OK {
		t.Error(e)
	}
	wantNewest(t, "17 pages", d, Super{}, api.ErrForm)
}

// tear lets the writing of a Super be torn, and looks whether the one ahead counts, or the new one, if all is kept that makes it another page.
func tear(t *testing.T, image []byte, ahead, next Super, steps int, fates []disk.Fate) {
	t.Helper()
	d, e := disk.Load(image)
	if e != api.OK {
		t.Fatal(e)
	}
	d.Fail(steps)
	if e := Write(crc.New(), d, next); (e == api.OK) != (steps >= 4) {
		t.Fatal(e)
	}
	d.Crash(fates)
	whole, _ := page.Put(crc.New(), page.Page{Kind: page.Super, Addr: place(next.Gen), Gen: next.Gen, Body: laid(next.Gen, next.Root.Addr, next.Root.Height, next.Bitmap, next.Pages)})
	there, _ := page.ReadRaw(d, place(next.Gen), api.PageSize)
	should := ahead
	if bytes.Equal(whole, there) {
		should = next
	}
	wantNewest(t, "torn", d, should, api.OK)
}

// P15.2: wherever the writing of the second of two generations is torn.
func TestTorn(t *testing.T) {
	r := rand.New(rand.NewPCG(15, 2))
	for gen := range uint64(4) {
		d := fresh(t, 16)
		// What stood at the place of the next one: nothing, or the one two ahead.
		if gen > 0 {
			write(t, d, of(gen))
		}
		ahead, next := of(gen+1), of(gen+2)
		ahead.Root.Addr, next.Bitmap, next.Root.Height = 6, 3, 2
		write(t, d, ahead)
		image := d.Image()
		for steps := range 5 {
			tear(t, image, ahead, next, steps, nil)
			all := make([]disk.Fate, 4)
			for i := range all {
				all[i] = disk.Fate{Keep: true, Atoms: 255}
			}
			tear(t, image, ahead, next, steps, all)
			tear(t, image, ahead, next, steps, all[:2])
			for sector := range all {
				for atoms := range 256 {
					torn := append([]disk.Fate(nil), all...)
					torn[sector].Atoms = uint8(atoms)
					tear(t, image, ahead, next, steps, torn)
					alone := make([]disk.Fate, 4)
					alone[sector] = disk.Fate{Keep: true, Atoms: uint8(atoms)}
					tear(t, image, ahead, next, steps, alone)
				}
				lost := append([]disk.Fate(nil), all...)
				lost[sector].Keep = false
				tear(t, image, ahead, next, steps, lost)
			}
			for range 200 {
				some := make([]disk.Fate, 4)
				for i := range some {
					some[i] = disk.Fate{Keep: r.IntN(4) > 0, Atoms: uint8(r.Uint32())}
				}
				tear(t, image, ahead, next, steps, some)
			}
		}
	}
}
