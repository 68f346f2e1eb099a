package store

import (
	"math"
	"slices"
	"testing"

	"rick/api"
	"rick/chunk"
	"rick/crc"
	"rick/disk"
	"rick/node"
	"rick/page"
	"rick/super"
	"rick/txn"
)

// turn turns a bit of a byte from a page on.
func turn(t *testing.T, d *disk.Disk, addr, at int) {
	t.Helper()
	i := 4*addr + at/64
	b, e := d.Read(i)
	want(t, "Read", e, api.OK)
	b[at%64] ^= 16
	want(t, "Write", d.Write(i, b), api.OK)
	want(t, "Flush", d.Flush(), api.OK)
}

// wantNoChunk looks whether the chunk 100, 110, 120 of series 5, between others, is told to be none's where it has to be read, and just there.
func wantNoChunk(t *testing.T, what string, image []byte, gen uint64, m model) {
	t.Helper()
	fresh := func() (*Store, *disk.Disk) {
		d := loaded(t, image)
		return opened(t, d), d
	}
	s, d := fresh()
	for _, c := range [][2]int64{{100, 100}, {120, 120}, {0, 105}, {115, 300}, {least, most}, {101, 109}} {
		if l, e := s.Query(5, c[0], c[1]); len(l) != 0 || e != api.ErrForm {
			t.Errorf("%s: Query %v: %v, %d", what, c, l, e)
		}
	}
	if c, k, e := s.Chunks(5); len(c) != 0 || len(k) != 0 || e != api.ErrForm {
		t.Errorf("%s: Chunks: %v, %v, %d", what, c, k, e)
	}
	for _, c := range [][2]int64{{100, 100}, {120, 120}, {0, 105}, {115, 300}, {101, 109}, {101, 300}, {0, 119}} {
		want(t, what+": Delete of a part", s.Delete(5, c[0], c[1]), api.ErrForm)
		want(t, what+": Batch", s.Batch([]Op{{Put: true, Series: 9, Samples: ats(1)}, {Series: 5, From: c[0], To: c[1]}}), api.ErrForm)
	}
	for _, c := range [][2]int64{{0, 99}, {121, 300}, {least, 50}} {
		wantQuery(t, what, s, m, 5, c[0], c[1])
	}
	for _, series := range []int{4, 6} {
		wantChunks(t, what, s, m, series)
	}
	if st, e := s.Stat(); e != api.OK || st.Chunks != len(m) || st.Gen != gen {
		t.Errorf("%s: Stat: %v, %d", what, st, e)
	}
	want(t, what+": Append", s.Append(5, 0, ats(110)), api.ErrOverlap)
	for _, c := range [][2]int64{{90, 120}, {91, 130}, {100, 120}, {100, 199}, {0, 300}} {
		s, d = fresh()
		want(t, what+": Delete", s.Delete(5, c[0], c[1]), api.OK)
		now, _ := m.remove(5, c[0], c[1])
		wantOpened(t, what+": it goes as a whole", d, gen+1, now)
	}
	s, d = fresh()
	want(t, what+": Replace", s.Replace(5, [][]api.Sample{ats(105)}, []int{3}), api.OK)
	now, _ := m.replace(5, [][]api.Sample{ats(105)}, []int{3})
	wantOpened(t, what+": it is replaced", d, gen+1, now)
}

// around is chunks beside the one that is damaged.
func around() model {
	return model{{4, 1, ats(100, 110, 120)}, {5, 0, ats(0, 90)}, {5, 0, ats(200)}, {6, 1, ats(100, 110, 120)}}
}

// P17.1: bytes that aren't those that were put.
func TestDamagedChunk(t *testing.T) {
	m := append(around(), lot{5, 6, ats(100, 110, 120)})
	_, d, gen := filled(t, 64, m)
	x := entriesOf(t, d)[2]
	if x.Key.Start != 100 || x.Key.Series != 5 {
		t.Fatal(x)
	}
	for at := range x.Len {
		broken := loaded(t, d.Image())
		turn(t, broken, x.Addr, at)
		wantNoChunk(t, "damaged", broken.Image(), gen, m)
	}
	turn(t, d, x.Addr, x.Len)
	wantOpened(t, "behind its end", d, gen, m)
}

// P17.1: bytes of which the entry tells something else, and bytes that are no chunk.
func TestOtherChunk(t *testing.T) {
	l := ats(100, 110, 120)
	m := append(around(), lot{5, 6, l})
	right, _ := chunk.Encode(l, 6)
	entry := node.Entry{Key: node.Key{Series: 5, Start: 100}, End: 120, Count: 3, Codec: 6}
	other := func(l []api.Sample, codec int) []byte {
		b, e := chunk.Encode(l, codec)
		want(t, "Encode", e, api.OK)
		return b
	}
	for what, c := range map[string]struct {
		change func(e *node.Entry)
		bytes  []byte
	}{
		"another count":       {func(e *node.Entry) { e.Count = 2 }, right},
		"another codec":       {func(e *node.Entry) { e.Codec = 7 }, right},
		"another first time":  {func(*node.Entry) {}, other(ats(99, 110, 120), 6)},
		"another last time":   {func(*node.Entry) {}, other(ats(100, 110, 119), 6)},
		"fewer samples":       {func(*node.Entry) {}, other(ats(100, 120), 6)},
		"by another codec":    {func(*node.Entry) {}, other(l, 9)},
		"too short":           {func(*node.Entry) {}, right[:len(right)-1]},
		"just a byte":         {func(*node.Entry) {}, right[:1]},
		"one byte more":       {func(*node.Entry) {}, append(right[:len(right):len(right)], 0)},
		"of no codec":         {func(*node.Entry) {}, append([]byte{99}, right[1:]...)},
		"times that fall":     {func(*node.Entry) {}, append([]byte{0, 0, 2}, make([]byte, 32)...)},
		"nothing but noughts": {func(*node.Entry) {}, make([]byte, 300)},
	} {
		_, d, gen := filled(t, 64, around())
		b, e := txn.Mount(d)
		want(t, "Mount", e, api.OK)
		x, e := b.Begin()
		want(t, "Begin", e, api.OK)
		tells := entry
		c.change(&tells)
		want(t, "Put", x.Put(tells, c.bytes), api.OK)
		want(t, "Commit", x.Commit(), api.OK)
		if what == "nothing but noughts" {
			// It takes two pages: freeOf counts the right chunk's.
			s := opened(t, d)
			if l, e := s.Query(5, 0, 150); len(l) != 0 || e != api.ErrForm {
				t.Error(l, e)
			}
			continue
		}
		wantNoChunk(t, what, d.Image(), gen+1, m)
	}
}

// P17.1: nodes that can't be read are told where they are met, and nothing is changed.
func TestDamagedNode(t *testing.T) {
	var m model
	for k := range int64(40) {
		m = append(m, lot{int(k / 10), 6, ats(100*k, 100*k+50)})
	}
	_, image, _ := filled(t, 100, m)
	behind, beyond := 0, 0 // how many nodes a Query of the first series, and of a part of it, doesn't need
	for _, addr := range nodesOf(t, image) {
		d := loaded(t, image.Image())
		turn(t, d, addr, 20)
		s := opened(t, d)
		before := d.Image()
		if l, e := s.Query(0, least, most); e == api.OK && slices.Equal(l, m.query(0, least, most)) {
			behind++
		}
		if l, e := s.Query(0, least, 300); e == api.OK && slices.Equal(l, m.query(0, least, 300)) {
			beyond++
		}
		if l, e := s.Series(); len(l) != 0 || e != api.ErrForm {
			t.Error(addr, l, e)
		}
		if st, e := s.Stat(); st != (Stat{}) || e != api.ErrForm {
			t.Error(addr, st, e)
		}
		broken := 0
		for series := range 4 {
			l, e := s.Query(series, least, most)
			chunks, codecs, f := s.Chunks(series)
			if e != f || e != api.OK && e != api.ErrForm || e != api.OK && len(l)+len(chunks)+len(codecs) > 0 {
				t.Error(addr, l, e, chunks, codecs, f)
			}
			if e == api.OK {
				wantQuery(t, "whole", s, m, series, least, most)
				continue
			}
			broken++
			want(t, "Replace", s.Replace(series, nil, nil), api.ErrForm)
			want(t, "Delete", s.Delete(series, least, most), api.ErrForm)
		}
		if broken == 0 {
			t.Error(addr, "never")
		}
		d.Crash(nil)
		if string(d.Image()) != string(before) {
			t.Error(addr, "changed")
		}
	}
	if behind < 5 || beyond <= behind {
		t.Error(behind, beyond)
	}
}

// P17.1: a chunk that should stand beyond the disk: the disk's error, as it comes.
func TestBeyond(t *testing.T) {
	_, d, _ := filled(t, 32, model{{4, 6, ats(1)}, {5, 6, ats(100, 110, 120)}})
	last, _ := super.Newest(crc.New(), d)
	x := entriesOf(t, d)
	x[1].Addr = 32
	body, e := node.Put(node.Node{Leaf: true, Entries: x})
	want(t, "node", e, api.OK)
	want(t, "Write", page.Write(crc.New(), d, page.Page{Kind: page.Leaf, Addr: last.Root.Addr, Gen: last.Gen, Body: body}), api.OK)
	s := opened(t, d)
	if l, e := s.Query(5, 0, 110); len(l) != 0 || e != api.ErrArg {
		t.Error(l, e)
	}
	if c, k, e := s.Chunks(5); len(c) != 0 || len(k) != 0 || e != api.ErrArg {
		t.Error(c, k, e)
	}
	want(t, "Delete", s.Delete(5, 0, 110), api.ErrArg)
	if l, e := s.Query(4, least, most); e != api.OK || len(l) != 1 {
		t.Error(l, e)
	}
}

// P17.1: a bitmap that can't be read: there is no Store.
func TestDamagedBitmap(t *testing.T) {
	_, d, _ := filled(t, 16, model{{1, 0, ats(1)}})
	s, _ := super.Newest(crc.New(), d)
	turn(t, d, s.Bitmap, 17)
	if s, e := Open(d); s != nil || e != api.ErrForm {
		t.Error(s != nil, e)
	}
}

// P17.1: behind the last generation there is none: no change can be, and what is there can be read.
func TestLastGeneration(t *testing.T) {
	m := model{{1, 6, rising(20, 0, 1)}}
	_, d, _ := filled(t, 32, m)
	last, _ := super.Newest(crc.New(), d)
	p, _ := page.Read(crc.New(), d, last.Bitmap, page.Bitmap)
	last.Gen, p.Gen = math.MaxUint64, math.MaxUint64
	page.Write(crc.New(), d, p)
	super.Write(crc.New(), d, last)
	d.Flush()
	s := opened(t, d)
	for range 2 {
		want(t, "Append", s.Append(2, 0, ats(1)), api.ErrArg)
		want(t, "Delete", s.Delete(1, 5, 9), api.ErrArg)
		want(t, "Batch", s.Batch(nil), api.ErrArg)
		want(t, "Replace", s.Replace(1, nil, nil), api.ErrArg)
		wantStore(t, "behind it", s, d, math.MaxUint64, m)
	}
	d.Crash(nil)
	wantOpened(t, "behind it", d, math.MaxUint64, m)
}
