package page

import (
	"bytes"
	"math"
	"math/rand/v2"
	"testing"

	"rick/api"
	"rick/crc"
	"rick/disk"
)

// fresh is a disk of 8 pages.
func fresh(t *testing.T) *disk.Disk {
	t.Helper()
	d, e := disk.New(8)
	if e != api.OK {
		t.Fatal(e)
	}
	return d
}

// dark is a disk of 8 pages without power.
func dark(t *testing.T) *disk.Disk {
	t.Helper()
	d := fresh(t)
	d.Fail(0)
	d.Flush()
	return d
}

// some is so many bytes of no shape.
func some(r *rand.Rand, n int) []byte {
	b := make([]byte, n)
	for i := range b {
		b[i] = byte(r.Uint32())
	}
	return b
}

// laid is a page as the chapter tells it, of whatever parts.
func laid(kind, nought byte, addr, gen, count uint64, body []byte) []byte {
	b := []byte{kind, nought, byte(addr >> 8), byte(addr)}
	for k := 56; k >= 0; k -= 8 {
		b = append(b, byte(gen>>k))
	}
	b = append(b, byte(count>>8), byte(count))
	b = append(b, body...)
	return summed(append(b, make([]byte, 256-len(b))...))
}

// summed is a page's bytes with the sum that they should have.
func summed(b []byte) []byte {
	sum := crc.Sum(crc.New(), b[:252])
	return append(bytes.Clone(b[:252]), byte(sum), byte(sum>>8), byte(sum>>16), byte(sum>>24))
}

func alike(p, q Page) bool {
	return p.Kind == q.Kind && p.Addr == q.Addr && p.Gen == q.Gen && bytes.Equal(p.Body, q.Body)
}

func isNothing(p Page) bool {
	return p.Kind == 0 && p.Addr == 0 && p.Gen == 0 && len(p.Body) == 0
}

func want(t *testing.T, what string, got, should api.Errno) {
	t.Helper()
	if got != should {
		t.Errorf("%s: %d, not %d", what, got, should)
	}
}

// P3.1 and P3.2: of all kinds, places, generations and sizes what is put is laid as it should be, and told back.
func TestPutGet(t *testing.T) {
	table := crc.New()
	r := rand.New(rand.NewPCG(3, 1))
	for _, kind := range []byte{'S', 'L', 'I', 'B'} {
		for _, addr := range []int{0, 1, 3, 255, 256, 511} {
			for _, gen := range []uint64{0, 1, 258, 0x0102030405060708, math.MaxUint64} {
				for _, n := range []int{0, 1, 4, 237, 238} {
					p := Page{kind, addr, gen, some(r, n)}
					b, e := Put(table, p)
					if e != api.OK || !bytes.Equal(b, laid(kind, 0, uint64(addr), gen, uint64(n), p.Body)) {
						t.Fatalf("%v: %v, %d", p, b, e)
					}
					q, e := Get(table, b)
					if e != api.OK || !alike(p, q) {
						t.Fatalf("%v: %v, %d", p, q, e)
					}
				}
			}
		}
	}
	b, _ := Put(table, Page{Kind: Leaf, Addr: 3, Gen: 1})
	if len(b) != 256 || !bytes.HasPrefix(b, []byte{0x4C, 0, 0, 3}) {
		t.Error(b)
	}
	if Super != 'S' || Leaf != 'L' || Inner != 'I' || Bitmap != 'B' || Room != 238 {
		t.Error("other numbers")
	}
}

// P3.1: the sum is the handed table's.
func TestOtherTable(t *testing.T) {
	var noughts crc.Table
	p := Page{Kind: Inner, Addr: 7, Gen: 2, Body: []byte{1}}
	b, e := Put(noughts, p)
	if e != api.OK || !bytes.Equal(b[252:], []byte{255, 255, 255, 255}) {
		t.Fatal(b, e)
	}
	if q, e := Get(noughts, b); e != api.OK || !alike(p, q) {
		t.Error(q, e)
	}
	if q, e := Get(crc.New(), b); e != api.ErrForm || !isNothing(q) {
		t.Error(q, e)
	}
}

// P3.1: no page has another kind, another place, a larger body.
func TestPutWrong(t *testing.T) {
	table := crc.New()
	for kind := range 256 {
		should := api.ErrArg
		if bytes.IndexByte([]byte("SLIB"), byte(kind)) >= 0 {
			should = api.OK
		}
		b, e := Put(table, Page{Kind: byte(kind)})
		want(t, "kind", e, should)
		if e != api.OK && b != nil {
			t.Errorf("kind %d: %v", kind, b)
		}
	}
	for _, p := range []Page{
		{Kind: Super, Addr: -1},
		{Kind: Super, Addr: math.MinInt},
		{Kind: Super, Addr: 512},
		{Kind: Super, Addr: 65536},
		{Kind: Super, Addr: math.MaxInt},
		{Kind: Super, Body: make([]byte, 239)},
		{Kind: Super, Body: make([]byte, 65536+1)},
		{},
	} {
		if b, e := Put(table, p); b != nil || e != api.ErrArg {
			t.Errorf("%v: %v, %d", p, b, e)
		}
	}
}

// P3.1: of bytes that are too few or too many, and of those that no Put lays, no page is told.
func TestGetWrong(t *testing.T) {
	table := crc.New()
	for _, n := range []int{0, 1, 14, 252, 255, 257, 512} {
		if p, e := Get(table, make([]byte, n)); e != api.ErrShort || !isNothing(p) {
			t.Errorf("%d bytes: %v, %d", n, p, e)
		}
	}
	right := laid('B', 0, 5, 6, 3, []byte("abc"))
	if p, e := Get(table, right); e != api.OK || !alike(p, Page{'B', 5, 6, []byte("abc")}) {
		t.Fatal(p, e)
	}
	turned := bytes.Clone(right)
	turned[252], turned[255] = right[255], right[252]
	for _, b := range [][]byte{
		make([]byte, 256),
		bytes.Repeat([]byte{255}, 256),
		turned,
		summed(make([]byte, 256)),
		laid('X', 0, 5, 6, 3, []byte("abc")),
		laid('b', 0, 5, 6, 3, []byte("abc")),
		laid('B', 1, 5, 6, 3, []byte("abc")),
		laid('B', 0, 512, 6, 3, []byte("abc")),
		laid('B', 0, 65535, 6, 3, []byte("abc")),
		laid('B', 0, 5, 6, 2, []byte("abc")),
		laid('B', 0, 5, 6, 0, []byte("abc")),
		laid('B', 0, 5, 6, 239, make([]byte, 238)),
		laid('B', 0, 5, 6, 242, make([]byte, 238)),
		laid('B', 0, 5, 6, 65535, make([]byte, 238)),
		laid('B', 0, 5, 6, 237, append(make([]byte, 237), 1)),
	} {
		if p, e := Get(table, b); e != api.ErrForm || !isNothing(p) {
			t.Errorf("%v: %v, %d", b, p, e)
		}
	}
	if p, e := Get(table, nil); e != api.ErrShort || !isNothing(p) {
		t.Error(p, e)
	}
}

// P3.2: a page of which up to 32 bits side by side were turned is none's.
func TestTurned(t *testing.T) {
	table := crc.New()
	r := rand.New(rand.NewPCG(3, 2))
	for _, n := range []int{0, 20, 238} {
		b, _ := Put(table, Page{Leaf, 300, r.Uint64(), some(r, n)})
		for from := range 256 * 8 {
			patterns := []uint32{1, 2, 0xFF, 0xFFFFFFFF, 0x80000001, 0x82F63B78, r.Uint32() | 1, r.Uint32()>>r.IntN(32) | 1}
			for _, pattern := range patterns {
				c := turn(b, from, pattern)
				if bytes.Equal(b, c) {
					continue
				}
				if p, e := Get(table, c); e != api.ErrForm || !isNothing(p) {
					t.Fatalf("bits %08X from %d on: %v, %d", pattern, from, p, e)
				}
			}
		}
	}
}

// turn turns those bits of b, from one on, that are 1 in a pattern, up to b's end.
func turn(b []byte, from int, pattern uint32) []byte {
	c := bytes.Clone(b)
	for k := from; k < min(from+32, len(b)*8); k++ {
		c[k/8] ^= byte(pattern>>(k-from)&1) << (k % 8)
	}
	return c
}

// P3.1 and P3.2: what is written is read at its place, as its kind, and nowhere else.
func TestWriteRead(t *testing.T) {
	table := crc.New()
	d := fresh(t)
	for addr := range 8 {
		p := Page{"SLIB"[addr%4], addr, uint64(addr) + 9, bytes.Repeat([]byte{byte(addr)}, 30*addr)}
		want(t, "Write", Write(table, d, p), api.OK)
		if d.Waiting() != 4*addr+4 {
			t.Errorf("%d wait", d.Waiting())
		}
		q, e := Read(table, d, addr, p.Kind)
		if e != api.OK || !alike(p, q) {
			t.Errorf("%v: %v, %d", p, q, e)
		}
		for _, kind := range []byte{'S', 'L', 'I', 'B', 'X', 0} {
			if kind == p.Kind {
				continue
			}
			if q, e := Read(table, d, addr, kind); e != api.ErrForm || !isNothing(q) {
				t.Errorf("page %d as %c: %v, %d", addr, kind, q, e)
			}
		}
	}
	d.Flush()
	b, _ := Put(table, Page{Leaf, 1, 10, bytes.Repeat([]byte{1}, 30)})
	if !bytes.Equal(d.Image()[256:512], b) {
		t.Error("another image")
	}
}

// P3.1: what isn't right, or says that it stands elsewhere, isn't read.
func TestReadWrong(t *testing.T) {
	table := crc.New()
	d := fresh(t)
	b, _ := Put(table, Page{Kind: Leaf, Addr: 3})
	WriteRaw(d, 4, b)
	WriteRaw(d, 5, laid('L', 1, 5, 0, 0, nil))
	WriteRaw(d, 6, laid('X', 0, 6, 0, 0, nil))
	for addr := range 8 {
		for _, kind := range []byte{'L', 'X', 0} {
			if p, e := Read(table, d, addr, kind); e != api.ErrForm || !isNothing(p) {
				t.Errorf("page %d: %v, %d", addr, p, e)
			}
		}
	}
	for _, addr := range []int{math.MinInt, -1, 8, 511, 512, 1 << 62, math.MaxInt} {
		for _, kind := range []byte{'L', 'X'} {
			if p, e := Read(table, d, addr, kind); e != api.ErrArg || !isNothing(p) {
				t.Errorf("page %d: %v, %d", addr, p, e)
			}
		}
	}
}

// P3.1: the four sectors are written in order, so that power may go between any two.
func TestWriteOrder(t *testing.T) {
	table := crc.New()
	p := Page{Inner, 2, 5, bytes.Repeat([]byte{7}, 238)}
	b, _ := Put(table, p)
	all := bytes.Repeat([]byte{7}, 600)
	for steps := range 5 {
		d := fresh(t)
		d.Fail(steps)
		should := api.ErrStop
		if steps == 4 {
			should = api.OK
		}
		want(t, "Write", Write(table, d, p), should)
		checkSectors(t, d, 2, steps, b)
	}
	for steps := range 13 {
		d := fresh(t)
		d.Fail(steps)
		should := api.ErrStop
		if steps == 12 {
			should = api.OK
		}
		want(t, "WriteRaw", WriteRaw(d, 3, all), should)
		checkSectors(t, d, 3, steps, append(bytes.Clone(all), make([]byte, 168)...))
	}
}

// checkSectors looks whether just the first so many sectors wait.
func checkSectors(t *testing.T, d *disk.Disk, addr, sectors int, b []byte) {
	t.Helper()
	if d.Waiting() != sectors {
		t.Errorf("%d wait, not %d", d.Waiting(), sectors)
	}
	fates := make([]disk.Fate, sectors)
	for k := range fates {
		fates[k] = disk.Fate{Keep: true, Atoms: 255}
	}
	d.Crash(fates)
	image := make([]byte, 2048)
	copy(image[addr*256:], b[:sectors*64])
	if !bytes.Equal(d.Image(), image) {
		t.Errorf("%d sectors: another image", sectors)
	}
}

// P3.1: WriteRaw lays noughts up to a page's end, and leaves what stands around.
func TestRaw(t *testing.T) {
	r := rand.New(rand.NewPCG(3, 3))
	for _, n := range []int{1, 63, 64, 65, 255, 256, 257, 300, 511, 512, 513, 1023, 1024} {
		d := fresh(t)
		old := bytes.Repeat([]byte{0xEE}, 2048)
		want(t, "WriteRaw", WriteRaw(d, 0, old), api.OK)
		b := some(r, n)
		want(t, "WriteRaw", WriteRaw(d, 4, b), api.OK)
		whole := (n + 255) / 256 * 256
		if d.Waiting() != 32+whole/64 {
			t.Errorf("%d bytes: %d wait", n, d.Waiting())
		}
		copy(old[1024:], make([]byte, whole))
		copy(old[1024:], b)
		for _, m := range []int{0, 1, n - 1, n, whole, 1024} {
			got, e := ReadRaw(d, 4, m)
			if e != api.OK || !bytes.Equal(got, old[1024:1024+m]) {
				t.Errorf("%d bytes, %d read: %v, %d", n, m, got, e)
			}
		}
		if got, e := ReadRaw(d, 0, 2048); e != api.OK || !bytes.Equal(got, old) {
			t.Errorf("%d bytes: what stands around, %d", n, e)
		}
		d.Flush()
		if !bytes.Equal(d.Image(), old) {
			t.Errorf("%d bytes: another image", n)
		}
	}
}

// P3.1: of no byte nothing is written, wherever, and nothing read.
func TestRawOfNothing(t *testing.T) {
	d := fresh(t)
	d.Fail(0)
	for _, addr := range []int{math.MinInt, -1, 0, 7, 8, math.MaxInt} {
		want(t, "nil", WriteRaw(d, addr, nil), api.OK)
		want(t, "empty", WriteRaw(d, addr, []byte{}), api.OK)
		if b, e := ReadRaw(d, addr, 0); e != api.OK || len(b) != 0 {
			t.Errorf("ReadRaw(%d, 0): %v, %d", addr, b, e)
		}
	}
	if d.Waiting() != 0 || !d.On() {
		t.Error(d.Waiting(), d.On())
	}
}

// P3.1: what goes beyond the disk is refused, and changes nothing.
func TestRawBeyond(t *testing.T) {
	d := fresh(t)
	d.Fail(1)
	for _, c := range []struct{ addr, n int }{
		{-1, 1}, {-1, 300}, {math.MinInt, 1}, {8, 1}, {9, 1}, {511, 1}, {1 << 62, 1}, {math.MaxInt, 1},
		{7, 257}, {7, 513}, {0, 2049}, {1, 2048}, {5, 769}, {1 << 56, 256},
	} {
		want(t, "WriteRaw", WriteRaw(d, c.addr, make([]byte, c.n)), api.ErrArg)
		if b, e := ReadRaw(d, c.addr, c.n); b != nil || e != api.ErrArg {
			t.Errorf("ReadRaw(%d, %d): %v, %d", c.addr, c.n, b, e)
		}
	}
	for _, n := range []int{-1, -256, math.MinInt, math.MaxInt, math.MaxInt - 255, 1 << 40} {
		for _, addr := range []int{-1, 0, 7, 8, math.MaxInt} {
			if b, e := ReadRaw(d, addr, n); b != nil || e != api.ErrArg {
				t.Errorf("ReadRaw(%d, %d): %v, %d", addr, n, b, e)
			}
		}
	}
	if d.Waiting() != 0 || !d.On() || !bytes.Equal(d.Image(), make([]byte, 2048)) {
		t.Error("what is refused changed something")
	}
	want(t, "Flush", d.Flush(), api.OK)
	want(t, "Flush", d.Flush(), api.ErrStop)
}

// P3.1: a page that can't be, or has no place on the disk, isn't written.
func TestWriteWrong(t *testing.T) {
	table := crc.New()
	d := fresh(t)
	d.Fail(0)
	for _, p := range []Page{
		{Kind: 'X'}, {Kind: Leaf, Addr: -1}, {Kind: Leaf, Addr: 8}, {Kind: Leaf, Addr: 511}, {Kind: Leaf, Addr: 512},
		{Kind: Leaf, Addr: 1 << 62}, {Kind: Leaf, Body: make([]byte, 239)},
	} {
		want(t, "Write", Write(table, d, p), api.ErrArg)
	}
	if d.Waiting() != 0 || !d.On() {
		t.Error(d.Waiting(), d.On())
	}
}

// P3.1: disk's errors come ahead of all others.
func TestDiskErrors(t *testing.T) {
	table := crc.New()
	right := Page{Kind: Leaf, Addr: 3}
	for _, c := range []struct {
		d      *disk.Disk
		should api.Errno
	}{{nil, api.ErrArg}, {dark(t), api.ErrStop}} {
		for _, p := range []Page{right, {}, {Kind: Leaf, Addr: -1}, {Kind: Leaf, Addr: 9}, {Kind: Leaf, Body: make([]byte, 239)}} {
			want(t, "Write", Write(table, c.d, p), c.should)
		}
		for _, addr := range []int{-1, 3, 8, math.MaxInt} {
			if p, e := Read(table, c.d, addr, Leaf); e != c.should || !isNothing(p) {
				t.Errorf("Read: %v, %d", p, e)
			}
			for _, n := range []int{0, 1, 300, 4096} {
				want(t, "WriteRaw", WriteRaw(c.d, addr, make([]byte, n)), c.should)
				for _, m := range []int{n, -n} {
					if b, e := ReadRaw(c.d, addr, m); e != c.should || b != nil {
						t.Errorf("ReadRaw(%d): %v, %d", m, b, e)
					}
				}
			}
		}
	}
}

// P3.3: what is handed in is neither kept nor changed, its spare room neither.
func TestHandedIn(t *testing.T) {
	table := crc.New()
	d := fresh(t)
	room := bytes.Repeat([]byte{5}, 300)
	p := Page{Leaf, 3, 1, room[:10]}
	b, _ := Put(table, p)
	Write(table, d, p)
	WriteRaw(d, 4, room[:20])
	if !bytes.Equal(room, bytes.Repeat([]byte{5}, 300)) || len(p.Body) != 10 {
		t.Error("what was handed in is changed")
	}
	room[0] = 6
	if b[14] != 5 {
		t.Error("a page keeps its body")
	}
	if q, _ := Read(table, d, 3, Leaf); q.Body[0] != 5 {
		t.Error("Write keeps the body")
	}
	if c, _ := ReadRaw(d, 4, 1); c[0] != 5 {
		t.Error("WriteRaw keeps the bytes")
	}
	wide := append(bytes.Clone(b), room...)
	before := bytes.Clone(wide)
	Get(table, wide[:256])
	Get(table, wide[:255])
	WriteRaw(d, 5, wide[:256])
	if !bytes.Equal(wide, before) {
		t.Error("bytes were changed")
	}
}

// P3.3: answers are new memory.
func TestAnswers(t *testing.T) {
	table := crc.New()
	d := fresh(t)
	p := Page{Leaf, 3, 1, []byte("body")}
	b, _ := Put(table, p)
	q, _ := Get(table, b)
	copy(q.Body, "soul")
	_ = append(q.Body, "and more"...)
	if again, _ := Put(table, p); !bytes.Equal(again, b) || string(p.Body) != "body" {
		t.Error("a page shares its body with the bytes")
	}
	Write(table, d, p)
	q, _ = Read(table, d, 3, Leaf)
	copy(q.Body, "soul")
	raw, _ := ReadRaw(d, 3, 256)
	copy(raw, "soul")
	if again, _ := ReadRaw(d, 3, 256); !bytes.Equal(again, b) {
		t.Error("an answer shares with the disk")
	}
}
