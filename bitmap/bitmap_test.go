package bitmap

import (
	"bytes"
	"math"
	"math/rand/v2"
	"testing"

	"rick/api"
)

// with is New of so many pages, with these in use too.
func with(pages int, used ...int) Map {
	m := New(pages)
	for _, i := range used {
		m.Used[i] = true
	}
	return m
}

// full is a Map of so many pages that are all in use but these.
func full(pages int, free ...int) Map {
	m := New(pages)
	for i := range pages {
		m.Used[i] = true
	}
	for _, i := range free {
		m.Used[i] = false
	}
	return m
}

// some is a Map of so many pages, of which any may be in use.
func some(r *rand.Rand, pages int) Map {
	m := New(pages)
	often := r.IntN(8) + 1
	for i := 2; i < pages; i++ {
		m.Used[i] = r.IntN(often) == 0
	}
	return m
}

// wrong is Maps that aren't Right, each in another way.
func wrong() []Map {
	few, many, below, large := New(8), New(512), New(8), New(512)
	few.Pages, many.Pages, below.Pages, large.Pages = 7, 513, -8, math.MaxInt
	first, second, beyond, last := New(16), New(16), with(16, 16), with(16, 511)
	first.Used[0], second.Used[1] = false, false
	return []Map{{}, few, many, below, large, {Pages: 8}, first, second, beyond, last, {Pages: math.MinInt}}
}

// P11.1: New takes its pages from 8 to 512, and has the first two in use.
func TestNew(t *testing.T) {
	for _, c := range []struct{ pages, should int }{
		{math.MinInt, 8}, {-1, 8}, {0, 8}, {7, 8}, {8, 8}, {9, 9}, {100, 100}, {511, 511}, {512, 512}, {513, 512}, {math.MaxInt, 512},
	} {
		m := New(c.pages)
		if m.Pages != c.should || !Right(m) || Free(m) != c.should-2 {
			t.Errorf("%d: %d pages, %d free", c.pages, m.Pages, Free(m))
		}
		for i, used := range m.Used {
			if used != (i < 2) {
				t.Errorf("%d: page %d: %v", c.pages, i, used)
			}
		}
	}
}

// P11.1: what isn't Right is told, and refused by each call.
func TestWrong(t *testing.T) {
	for i, m := range wrong() {
		if Right(m) {
			t.Errorf("%d is Right", i)
		}
		same := New(16)
		for _, c := range [][2]Map{{m, m}, {m, same}, {same, m}} {
			if a, at, e := Take(c[0], c[1], 1); a != (Map{}) || at != 0 || e != api.ErrArg {
				t.Errorf("%d: Take: %d, %d", i, at, e)
			}
			if n := Run(c[0], c[1]); n != 0 {
				t.Errorf("%d: Run: %d", i, n)
			}
		}
		for _, n := range []int{0, 1} {
			if a, e := Give(m, 2, n); a != (Map{}) || e != api.ErrArg {
				t.Errorf("%d: Give: %d", i, e)
			}
		}
		if b := Put(m); len(b) != 0 {
			t.Errorf("%d: Put: %x", i, b)
		}
	}
	for _, m := range []Map{New(8), New(512), full(8), full(512), with(9, 8), with(512, 511)} {
		if !Right(m) {
			t.Errorf("%d pages aren't Right", m.Pages)
		}
	}
}

// P11.1: Free counts the pages that there are, whatever the Map.
func TestFree(t *testing.T) {
	should := []int{0, 5, 510, 0, 510, 8, 15, 15, 14, 14, 0}
	for i, m := range wrong() {
		if n := Free(m); n != should[i] {
			t.Errorf("%d: %d, not %d", i, n, should[i])
		}
	}
	if Free(full(512)) != 0 || Free(full(8, 2, 7)) != 2 || Free(New(512)) != 510 {
		t.Error("another count")
	}
}

// P11.1: the chapter's example.
func TestExample(t *testing.T) {
	m := New(8)
	a, at, e := Take(m, m, 6)
	if a != full(8) || at != 2 || e != api.OK {
		t.Fatal(at, e)
	}
	for _, other := range []Map{m, a} {
		if b, at, e := Take(a, other, 6); b != (Map{}) || at != 0 || e != api.ErrFull {
			t.Error(at, e)
		}
		if b, at, e := Take(other, a, 1); b != (Map{}) || at != 0 || e != api.ErrFull {
			t.Error(at, e)
		}
	}
}

// P11.1: how many are taken, and where there is room for them.
func TestTake(t *testing.T) {
	for i, c := range []struct {
		m, other Map
		n, at    int
		e        api.Errno
	}{
		{New(16), New(16), 0, 0, api.ErrArg},
		{New(16), New(16), -1, 0, api.ErrArg},
		{New(16), New(16), math.MinInt, 0, api.ErrArg},
		{New(16), New(17), 1, 0, api.ErrArg},
		{New(17), New(16), 1, 0, api.ErrArg},
		{full(17), full(16), 0, 0, api.ErrArg},
		{New(16), New(16), 1, 2, api.OK},
		{New(16), New(16), 14, 2, api.OK},
		{New(16), New(16), 15, 0, api.ErrFull},
		{New(16), New(16), 16, 0, api.ErrFull},
		{New(16), New(16), math.MaxInt, 0, api.ErrFull},
		{New(512), New(512), 510, 2, api.OK},
		{New(512), New(512), 511, 0, api.ErrFull},
		{full(16, 15), New(16), 1, 15, api.OK},
		{New(16), full(16, 15), 1, 15, api.OK},
		{full(16, 14, 15), New(16), 2, 14, api.OK},
		{full(16, 2, 4, 6, 7, 9, 10, 11), New(16), 1, 2, api.OK},
		{full(16, 2, 4, 6, 7, 9, 10, 11), New(16), 2, 6, api.OK},
		{New(16), full(16, 2, 4, 6, 7, 9, 10, 11), 3, 9, api.OK},
		{full(16, 2, 4, 6, 7, 9, 10, 11), New(16), 4, 0, api.ErrFull},
		{full(16, 2, 3, 4, 5), full(16, 4, 5, 6, 7), 2, 4, api.OK},
		{full(16, 2, 3, 4, 5), full(16, 4, 5, 6, 7), 3, 0, api.ErrFull},
		{full(16, 2, 4, 6), full(16, 3, 5, 7), 1, 0, api.ErrFull},
		{full(16), full(16), 1, 0, api.ErrFull},
		{with(16, 15), New(16), 13, 2, api.OK},
		{with(16, 15), New(16), 14, 0, api.ErrFull},
		{with(16, 2), New(16), 13, 3, api.OK},
		{New(16), with(16, 8), 7, 9, api.OK},
	} {
		m, at, e := Take(c.m, c.other, c.n)
		var should Map
		if c.e == api.OK {
			should = c.m
			for k := range c.n {
				should.Used[c.at+k] = true
			}
		}
		if m != should || at != c.at || e != c.e {
			t.Errorf("%d: %d, %d; not %d, %d", i, at, e, c.at, c.e)
		}
	}
}

// P11.1: which pages may be given back.
func TestGive(t *testing.T) {
	for i, c := range []struct {
		m       Map
		addr, n int
		e       api.Errno
	}{
		{full(16), 2, 1, api.OK},
		{full(16), 2, 14, api.OK},
		{full(16), 15, 1, api.OK},
		{full(16), 7, 4, api.OK},
		{full(512), 2, 510, api.OK},
		{full(512), 511, 1, api.OK},
		{full(16), 0, 1, api.ErrArg},
		{full(16), 1, 1, api.ErrArg},
		{full(16), 1, 0, api.ErrArg},
		{full(16), -1, 1, api.ErrArg},
		{full(16), math.MinInt, 1, api.ErrArg},
		{full(16), math.MinInt, math.MaxInt, api.ErrArg},
		{full(16), 2, 0, api.OK},
		{New(16), 2, 0, api.OK},
		{full(16), 16, 0, api.OK},
		{full(16), 17, 0, api.ErrArg},
		{full(16), math.MaxInt, 0, api.ErrArg},
		{full(16), 2, -1, api.ErrArg},
		{full(16), 16, -1, api.ErrArg},
		{full(16), 17, -1, api.ErrArg},
		{full(16), 2, math.MinInt, api.ErrArg},
		{full(16), math.MaxInt, math.MinInt, api.ErrArg},
		{full(16), 2, 15, api.ErrArg},
		{full(16), 15, 2, api.ErrArg},
		{full(16), 16, 1, api.ErrArg},
		{full(512), 512, 1, api.ErrArg},
		{full(512), 511, 2, api.ErrArg},
		{full(16), math.MaxInt, 1, api.ErrArg},
		{full(16), math.MaxInt, math.MaxInt, api.ErrArg},
		{full(16), 2, math.MaxInt, api.ErrArg},
		{New(16), 2, 1, api.ErrNone},
		{New(16), 15, 1, api.ErrNone},
		{New(16), 15, 2, api.ErrArg},
		{full(16, 7), 7, 1, api.ErrNone},
		{full(16, 7), 6, 2, api.ErrNone},
		{full(16, 7), 7, 3, api.ErrNone},
		{full(16, 7), 2, 14, api.ErrNone},
		{full(16, 7), 8, 8, api.OK},
		{full(16, 7), 2, 5, api.OK},
	} {
		m, e := Give(c.m, c.addr, c.n)
		var should Map
		if c.e == api.OK {
			should = c.m
			for k := range c.n {
				should.Used[c.addr+k] = false
			}
		}
		if m != should || e != c.e {
			t.Errorf("%d: %d, not %d", i, e, c.e)
		}
	}
}

// P11.1: how many are free side by side in both.
func TestRun(t *testing.T) {
	for i, c := range []struct {
		m, other Map
		should   int
	}{
		{New(8), New(8), 6},
		{New(512), New(512), 510},
		{full(8), New(8), 0},
		{New(8), full(8), 0},
		{New(8), New(9), 0},
		{full(16, 2), New(16), 1},
		{full(16, 15), New(16), 1},
		{full(16, 2, 3, 4, 6), New(16), 3},
		{full(16, 2, 12, 13, 14, 15), New(16), 4},
		{full(16, 2, 3, 4, 5), full(16, 4, 5, 6, 7), 2},
		{full(16, 2, 4, 6), full(16, 3, 5, 7), 0},
		{with(16, 9), New(16), 7},
		{New(16), with(16, 4), 11},
	} {
		if n := Run(c.m, c.other); n != c.should {
			t.Errorf("%d: %d, not %d", i, n, c.should)
		}
	}
}

// P11.1 and P11.2: of whatever maps just as many side by side can be taken as Run tells, the first ones that are free in both, and be given back.
func TestTakeGive(t *testing.T) {
	r := rand.New(rand.NewPCG(11, 1))
	for range 3000 {
		pages := 8 + r.IntN(60)
		m, other := some(r, pages), some(r, pages)
		most := Run(m, other)
		for n := 1; n <= most+1; n++ {
			a, at, e := Take(m, other, n)
			if n > most {
				if e != api.ErrFull {
					t.Fatalf("%d of %d: %d", n, most, e)
				}
				break
			}
			if e != api.OK || !Right(a) || Free(a) != Free(m)-n || at != first(m, other, n) {
				t.Fatalf("%d of %d: %d, %d", n, most, at, e)
			}
			for i := range pages {
				if taken := i >= at && i < at+n; taken && (m.Used[i] || other.Used[i] || !a.Used[i]) || !taken && a.Used[i] != m.Used[i] {
					t.Fatalf("%d from %d: page %d", n, at, i)
				}
			}
			if b, e := Give(a, at, n); b != m || e != api.OK {
				t.Fatalf("%d from %d isn't given back: %d", n, at, e)
			}
		}
	}
}

// first is where so many pages are free in both maps, -1 if nowhere.
func first(m, other Map, n int) int {
	for at := range m.Pages - n + 1 {
		free := true
		for i := at; i < at+n; i++ {
			free = free && !m.Used[i] && !other.Used[i]
		}
		if free {
			return at
		}
	}
	return -1
}

// P11.1: what is put is laid as it should be, and got again, of each count of pages.
func TestPutGet(t *testing.T) {
	if b := Put(New(8)); !bytes.Equal(b, []byte{0, 8, 3}) {
		t.Error(b)
	}
	if b := Put(with(265, 2, 7, 8, 15, 16, 263, 264)); len(b) != 2+34 || b[0] != 1 || b[1] != 9 || b[2] != 0x87 || b[3] != 0x81 || b[4] != 1 || b[34] != 0x80 || b[35] != 1 {
		t.Errorf("%x", b)
	}
	r := rand.New(rand.NewPCG(11, 2))
	for pages := 8; pages <= 512; pages++ {
		for _, m := range []Map{New(pages), full(pages), full(pages, pages-1), some(r, pages)} {
			b := Put(m)
			should := []byte{byte(pages >> 8), byte(pages)}
			for i := 0; i < pages; i += 8 {
				var c byte
				for k := range min(8, pages-i) {
					if m.Used[i+k] {
						c += 1 << k
					}
				}
				should = append(should, c)
			}
			if !bytes.Equal(b, should) {
				t.Fatalf("%d pages: %x, not %x", pages, b, should)
			}
			if n, e := Get(b); n != m || e != api.OK {
				t.Fatalf("%d pages: %d", pages, e)
			}
		}
	}
}

// P11.1: bytes that no Map's Put is are refused.
func TestGetWrong(t *testing.T) {
	refused := func(what string, b []byte) {
		t.Helper()
		if m, e := Get(b); m != (Map{}) || e != api.ErrForm {
			t.Errorf("%s: %x: %d", what, b, e)
		}
	}
	for _, pages := range []int{8, 9, 15, 16, 17, 255, 256, 257, 505, 511, 512} {
		b := Put(full(pages))
		for n := range b {
			refused("cut off", b[:n])
		}
		refused("a byte more", append(bytes.Clone(b), 0))
		refused("a byte more", append(bytes.Clone(b), 1))
		for k := range 8 {
			c := bytes.Clone(b)
			c[len(c)-1] ^= 1 << k
			last := (pages-1)/8*8 + k
			switch m, e := Get(c); {
			case last >= pages || last < 2:
				refused("a bit behind the last page, or a superblock's", c)
			case m != full(pages, last) || e != api.OK:
				t.Errorf("%d pages: bit %d: %d", pages, k, e)
			}
		}
		for _, first := range []byte{0, 1, 2, 0xFC} {
			c := bytes.Clone(b)
			c[2] = first
			refused("the first two", c)
		}
	}
	refused("7 pages", []byte{0, 7, 3})
	refused("0 pages", []byte{0, 0})
	refused("0 pages", []byte{0, 0, 3})
	refused("513 pages", append([]byte{2, 1, 3}, make([]byte, 64)...))
	refused("520 pages", append([]byte{2, 8, 3}, make([]byte, 64)...))
	refused("65535 pages", append([]byte{255, 255, 3}, make([]byte, 8191)...))
	refused("8 pages, the lowest byte first", []byte{8, 0, 3})
	refused("noughts", make([]byte, 66))
	refused("nothing", nil)
}

// P11.1: whatever bytes are a Map's are just those that it is put to; all others are refused.
func TestGetAny(t *testing.T) {
	r := rand.New(rand.NewPCG(11, 3))
	rights := 0
	for range 200000 {
		b := []byte{0, byte(r.IntN(20)), byte(r.Uint32()) | 3}
		for range r.IntN(3) {
			b = append(b, byte(r.Uint32())>>r.IntN(8))
		}
		m, e := Get(b)
		switch {
		case e == api.OK && Right(m) && bytes.Equal(Put(m), b):
			rights++
		case e != api.ErrForm || m != (Map{}):
			t.Fatalf("%x: %d", b, e)
		}
	}
	if rights < 1000 {
		t.Error(rights)
	}
}

// P11.3: bytes that are handed in aren't changed, and answers are new memory.
func TestMemory(t *testing.T) {
	room := append(Put(with(16, 9)), 7, 7, 7)
	b := room[:4]
	m, _ := Get(b)
	c := Put(m)
	if !bytes.Equal(room, []byte{0, 16, 3, 2, 7, 7, 7}) {
		t.Errorf("%x", room)
	}
	b[3] = 0xFF
	if m != with(16, 9) {
		t.Error("the bytes are kept")
	}
	c[2], c[3] = 0, 0
	if d := Put(m); !bytes.Equal(d, []byte{0, 16, 3, 2}) {
		t.Errorf("%x", d)
	}
}
