package txn

import (
	"bytes"
	"testing"

	"rick/api"
	"rick/bitmap"
)

// wantFull looks whether a call behind which a Txn is over told ErrFull, and the Base is as it was.
func wantFull(t *testing.T, what string, e api.Errno, x *Txn, was func()) {
	t.Helper()
	want(t, what, e, api.ErrFull)
	wantOver(t, what, x)
	was()
	begun(t, x.b).Abort()
	was()
}

// P16.1: just enough room, and one page too few: for the chunk, for the tree, for the bitmap.
func TestRoom(t *testing.T) {
	for _, size := range []int{8, 16, 100} {
		free := size - 3
		for n := 1; n <= min(free+3, 255); n++ {
			b, d := formatted(t, size)
			was := func() {
				t.Helper()
				wantBase(t, "full", b, d, 1, nil)
				wantMounted(t, "full", d, 1, nil)
				if b.Free() != free {
					t.Error(b.Free())
				}
			}
			x := begun(t, b)
			p := of(1, 0, pages(n))
			e := x.Put(p.e, p.b)
			if n > free-1 {
				wantFull(t, "Put", e, x, was)
				continue
			}
			want(t, "Put", e, api.OK)
			e = x.Commit()
			if n > free-2 {
				wantFull(t, "Commit", e, x, was)
				continue
			}
			want(t, "Commit", e, api.OK)
			wantMounted(t, "just enough", d, 2, []part{p})
			if b.Free() != free-n-1 {
				t.Error(size, n, b.Free())
			}
		}
	}
}

// P16.1: pages that aren't side by side are no room for a chunk.
func TestRun(t *testing.T) {
	l := []part{of(1, 0, pages(2)), of(1, 100, pages(3)), of(1, 200, pages(4)), of(1, 300, pages(3)), of(1, 400, pages(2))}
	for _, gone := range [][]int{{0}, {1}, {0, 2, 4}, {1, 3}, {1, 2}, {0, 1, 2, 3}} {
		for more := range 2 {
			b, d := filled(t, 24, l...)
			x := begun(t, b)
			stay := append([]part(nil), l...)
			for i := len(gone) - 1; i >= 0; i-- {
				drop(t, x, l[gone[i]])
				stay = append(stay[:gone[i]:gone[i]], stay[gone[i]+1:]...)
			}
			commit(t, x)
			m := bitmapOf(t, d, b)
			run := bitmap.Run(m, m)
			if run+2 > b.Free() {
				t.Fatal(gone, run, b.Free())
			}
			x = begun(t, b)
			p := of(2, 0, pages(run+more))
			e := x.Put(p.e, p.b)
			if more > 0 {
				wantFull(t, "a page more than side by side", e, x, func() { wantMounted(t, "full", d, 3, stay) })
				continue
			}
			want(t, "Put", e, api.OK)
			commit(t, x)
			wantMounted(t, "side by side", d, 4, append(stay, p))
		}
	}
}

// P16.1: what is dropped is no room till the next generation is there, and is room then.
func TestDroppedRoom(t *testing.T) {
	p := of(1, 0, pages(9))
	b, d := filled(t, 16, p)
	was := func() { wantMounted(t, "full", d, 2, []part{p}) }
	x := begun(t, b)
	drop(t, x, p)
	wantFull(t, "Put in the same Txn", x.Put(p.e, p.b), x, was)
	x = begun(t, b)
	drop(t, x, p)
	commit(t, x)
	if b.Free() != 13 {
		t.Error(b.Free())
	}
	x = begun(t, b)
	put(t, x, p)
	commit(t, x)
	wantMounted(t, "put again", d, 4, []part{p})
	// Twice the chunk would not fit: what one Txn gives back is taken by the next but one.
	for gen := uint64(5); gen < 30; gen += 2 {
		x = begun(t, b)
		drop(t, x, p)
		commit(t, x)
		wantMounted(t, "dropped", d, gen, nil)
		if b.Free() != 13 {
			t.Error(gen, b.Free())
		}
		x = begun(t, b)
		put(t, x, p)
		commit(t, x)
		wantMounted(t, "put again", d, gen+1, []part{p})
	}
}

// P16.1: what a Txn put and dropped itself is room in it.
func TestOwnRoom(t *testing.T) {
	b, d := formatted(t, 16)
	x := begun(t, b)
	for k := range 20 {
		p := of(1, 100*k, pages(11))
		put(t, x, p)
		drop(t, x, p)
	}
	p := of(2, 0, pages(11))
	put(t, x, p)
	commit(t, x)
	wantMounted(t, "the last one", d, 2, []part{p})
}

// P16.1: a Drop whose changed nodes have no room, and one whose have.
func TestDropFull(t *testing.T) {
	l := append([]part{of(0, 0, pages(2))}, chunks(7, 5)...)
	b, d := filled(t, 16, l...)
	if b.Super().Root.Height != 2 || b.Free() != 1 {
		t.Fatal(b.Super(), b.Free())
	}
	before := inUse(t, d, b)
	was := func() {
		t.Helper()
		wantBase(t, "full", b, d, 2, l)
		wantMounted(t, "full", d, 2, l)
		if !bytes.Equal(inUse(t, d, b), before) || b.Free() != 1 {
			t.Error("something was changed")
		}
	}
	for _, p := range l {
		x := begun(t, b)
		wantFull(t, "Drop", x.Drop(p.e.Key), x, was)
	}
	x := begun(t, b)
	wantFull(t, "Put", x.Put(of(9, 0, 5).e, make([]byte, 5)), x, was)
	x = begun(t, b)
	want(t, "Drop of none", x.Drop(of(9, 0, 5).e.Key), api.ErrNone)
	want(t, "Put of one that is known", x.Put(l[0].e, l[0].b), api.ErrKnown)
	commit(t, x)
	wantMounted(t, "nothing changed", d, 3, l)
	// With two pages free a Drop has room, but the Commit behind it hasn't; with three both have.
	for pages := range 2 {
		b, d = filled(t, 17+pages, l...)
		x = begun(t, b)
		drop(t, x, l[7])
		if pages == 0 {
			wantFull(t, "Commit", x.Commit(), x, func() { wantMounted(t, "full", d, 2, l) })
			continue
		}
		commit(t, x)
		wantMounted(t, "dropped", d, 3, l[:7])
	}
}

// P16.1: a tree that grows till there is no room: what was committed stays.
func TestGrowFull(t *testing.T) {
	b, d := formatted(t, 64)
	var l []part
	for k := 0; ; k++ {
		p := of(1, 100*(k*37%101), 5)
		x := begun(t, b)
		e := x.Put(p.e, p.b)
		if e == api.OK {
			e = x.Commit()
		}
		if e != api.OK {
			wantFull(t, "grown", e, x, func() { wantMounted(t, "full", d, uint64(k+1), l) })
			break
		}
		l = append(l, p)
		wantBase(t, "grown", b, d, uint64(k+2), l)
	}
	if len(l) < 40 {
		t.Error(len(l))
	}
	// P7: when all is dropped as many are free as at first.
	gen := b.Super().Gen
	for len(l) > 0 {
		x := begun(t, b)
		drop(t, x, l[0])
		commit(t, x)
		gen++
		l = l[1:]
		wantBase(t, "dropped", b, d, gen, l)
	}
	if b.Free() != 61 {
		t.Error(b.Free())
	}
}
