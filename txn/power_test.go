package txn

import (
	"bytes"
	"math/rand/v2"
	"testing"

	"rick/api"
	"rick/bitmap"
	"rick/crc"
	"rick/disk"
	"rick/page"
	"rick/super"
)

// scene is an image, what it has, and a Txn's calls: the chunks that are dropped, then those that are put, and Commit.
type scene struct {
	what        string
	image       []byte
	gen         uint64
	has         []part
	drops, puts []part
}

// next is what is there behind the Commit.
func (s scene) next() []part {
	var l []part
	for _, p := range s.has {
		stays := true
		for _, q := range s.drops {
			stays = stays && p.e.Key != q.e.Key
		}
		if stays {
			l = append(l, p)
		}
	}
	return append(l, s.puts...)
}

// run does the calls till one tells an error, and tells how many were done.
func (s scene) run(x *Txn) (int, api.Errno) {
	done := 0
	for _, p := range s.drops {
		if e := x.Drop(p.e.Key); e != api.OK {
			return done, e
		}
		done++
	}
	for _, p := range s.puts {
		if e := x.Put(p.e, p.b); e != api.OK {
			return done, e
		}
		done++
	}
	return done, x.Commit()
}

// calls is how many calls there are ahead of Commit.
func (s scene) calls() int { return len(s.drops) + len(s.puts) }

// scenes are images of chunks that were put, with a few generations more, and a Txn of each.
func scenes(t *testing.T) []scene {
	t.Helper()
	lay := func(what string, pages, gens int, has, drops, puts []part) scene {
		b, d := formatted(t, pages)
		for i := range gens {
			x := begun(t, b)
			if i == 0 {
				put(t, x, has...)
			}
			commit(t, x)
		}
		return scene{what, d.Image(), b.Super().Gen, has, drops, puts}
	}
	few, many := chunks(3, 300), chunks(30, 5)
	return []scene{
		lay("an empty one", 16, 0, nil, nil, []part{of(1, 0, 700)}),
		lay("nothing changed", 16, 2, few, nil, nil),
		lay("a few, even", 24, 1, few, few[:1], []part{of(1, 1, 5), of(2, 0, 257)}),
		lay("a few, odd", 24, 2, few, few[1:], []part{of(1, 101, 300)}),
		lay("with what is free again", 24, 3, few, few, []part{of(1, 0, 1000)}),
		lay("all dropped", 24, 1, few, few, nil),
		lay("with just enough room", 16, 1, few[:1], nil, []part{of(2, 0, pages(8))}),
		lay("many", 100, 2, many, many[3:9], []part{of(0, 0, 5), of(1, 350, 300), of(9, 0, 1)}),
	}
}

// stopped is a scene's Txn in which power goes behind so many steps; done is false if it didn't.
func (s scene) stopped(t *testing.T, steps int) (b *Base, x *Txn, d *disk.Disk, calls int, e api.Errno) {
	t.Helper()
	d = loaded(t, s.image)
	b = mounted(t, d)
	x = begun(t, b)
	d.Fail(steps)
	calls, e = s.run(x)
	return b, x, d, calls, e
}

// isThere tells whether a superblock stands whole at its place.
func isThere(t *testing.T, d *disk.Disk, gen uint64) bool {
	t.Helper()
	p, e := page.Read(crc.New(), d, int(gen%2), page.Super)
	return e == api.OK && p.Gen == gen
}

// P16.2: wherever power goes in Put, Drop and Commit, and whatever is kept, Mount finds what was there, or, in a Commit, what should be.
func TestPower(t *testing.T) {
	r := rand.New(rand.NewPCG(16, 1))
	for _, s := range scenes(t) {
		news := 0
		for steps := 0; ; steps++ {
			_, _, d, _, e := s.stopped(t, steps)
			if e == api.OK {
				s.wantDone(t, r, steps)
				break
			}
			for way, fates := range ways(r, d.Waiting()) {
				b, x, d, calls, e := s.stopped(t, steps)
				want(t, s.what, e, api.ErrStop)
				// Whether it is asked while power is gone, or not before it is there again.
				if way%2 == 0 {
					wantTold(t, s.what+", stopped", x, api.ErrStop)
					wantBaseTold(t, s.what+", stopped", b, api.ErrStop)
				}
				d.Crash(fates)
				wantTold(t, s.what+", power again", x, api.ErrStop)
				wantBaseTold(t, s.what+", power again", b, api.ErrStop)
				if d.Waiting() != 0 {
					t.Error(s.what, "something was written")
				}
				if isThere(t, d, s.gen+1) {
					news++
					if calls < s.calls() {
						t.Fatal(s.what, "a generation ahead of Commit")
					}
					wantMounted(t, s.what, d, s.gen+1, s.next())
					continue
				}
				wantMounted(t, s.what, d, s.gen, s.has)
				s.wantAgain(t, d)
			}
		}
		if news == 0 {
			t.Error(s.what, "never")
		}
	}
}

// wantDone looks whether a Commit that told OK stays, whatever is kept.
func (s scene) wantDone(t *testing.T, r *rand.Rand, steps int) {
	t.Helper()
	for _, fates := range ways(r, 0) {
		b, _, d, _, e := s.stopped(t, steps)
		want(t, s.what, e, api.OK)
		if d.Waiting() != 0 {
			t.Error(s.what, d.Waiting())
		}
		d.Crash(fates)
		wantBase(t, s.what, b, d, s.gen+1, s.next())
		wantMounted(t, s.what, d, s.gen+1, s.next())
	}
}

// wantAgain looks whether the same Txn is done on what Mount finds.
func (s scene) wantAgain(t *testing.T, d *disk.Disk) {
	t.Helper()
	if _, e := s.run(begun(t, mounted(t, d))); e != api.OK {
		t.Fatal(s.what, e)
	}
	wantMounted(t, s.what+", again", d, s.gen+1, s.next())
}

// P16.2: power that goes between the calls.
func TestPowerBetween(t *testing.T) {
	r := rand.New(rand.NewPCG(16, 2))
	for _, s := range scenes(t) {
		for calls := 0; calls <= s.calls(); calls++ {
			for way := 0; ; way++ {
				d := loaded(t, s.image)
				x := begun(t, mounted(t, d))
				drop(t, x, s.drops[:min(calls, len(s.drops))]...)
				put(t, x, s.puts[:max(0, calls-len(s.drops))]...)
				all := ways(r, d.Waiting())
				if way == len(all) {
					break
				}
				d.Crash(all[way])
				wantMounted(t, s.what, d, s.gen, s.has)
				s.wantAgain(t, d)
			}
		}
	}
}

// P16.1: no page that the Base's generation has in use is written till the next one is there: with all kept that waits when power goes, they are as they were.
func TestNotWritten(t *testing.T) {
	for _, s := range scenes(t) {
		d := loaded(t, s.image)
		b := mounted(t, d)
		m := bitmapOf(t, d, b)
		m.Used[(s.gen+1)%2] = false
		before := standsIn(t, d, m)
		for steps := 0; ; steps++ {
			_, _, d, _, e := s.stopped(t, steps)
			if e == api.OK {
				if !bytes.Equal(standsIn(t, d, m), before) {
					t.Error(s.what, "behind Commit")
				}
				break
			}
			// Power is needed to read, and all is kept.
			d.Crash(ways(rand.New(rand.NewPCG(1, 1)), d.Waiting())[1])
			if !bytes.Equal(standsIn(t, d, m), before) {
				t.Error(s.what, steps)
			}
		}
	}
}

// P16.1: a superblock is written when all that it tells of is there to stay, and not ahead.
func TestOrder(t *testing.T) {
	for _, s := range scenes(t) {
		place := int(s.gen+1) % 2
		was := s.image[place*256 : place*256+256]
		for steps := 0; ; steps++ {
			_, _, d, _, e := s.stopped(t, steps)
			if e == api.OK {
				break
			}
			stays := d.Image()
			d.Crash(ways(rand.New(rand.NewPCG(1, 1)), d.Waiting())[1])
			if bytes.Equal(d.Image()[place*256:place*256+256], was) {
				continue
			}
			// A part of it was written: with it alone the next generation is there whole.
			body, _ := super.Put(superOf(t, s))
			copy(stays[place*256:], made(t, page.Page{Kind: page.Super, Addr: place, Gen: s.gen + 1, Body: body}))
			wantMounted(t, s.what, loaded(t, stays), s.gen+1, s.next())
		}
	}
}

// superOf is the super behind a scene's Commit.
func superOf(t *testing.T, s scene) super.Super {
	t.Helper()
	b, _, _, _, e := s.stopped(t, -1)
	want(t, s.what, e, api.OK)
	return b.Super()
}

// P16.1: power that is gone is told by the first call that comes, and ends the Base.
func TestDark(t *testing.T) {
	l := chunks(20, 300)
	image := func() []byte {
		_, d := filled(t, 100, l...)
		return d.Image()
	}()
	for what, first := range map[string]func(b *Base, x *Txn) api.Errno{
		"Begin":      func(b *Base, _ *Txn) api.Errno { _, e := b.Begin(); return e },
		"Bytes":      func(b *Base, _ *Txn) api.Errno { _, e := b.Bytes(l[0].e); return e },
		"Entries":    func(b *Base, _ *Txn) api.Errno { _, e := told(t, b); return e },
		"Txn.Bytes":  func(_ *Base, x *Txn) api.Errno { _, e := x.Bytes(l[0].e); return e },
		"Entries, x": func(_ *Base, x *Txn) api.Errno { _, e := x.Entries(); return e },
		"Put":        func(_ *Base, x *Txn) api.Errno { return x.Put(of(2, 0, 5).e, []byte{1}) },
		"Put, wrong": func(_ *Base, x *Txn) api.Errno { return x.Put(of(2, 0, 5).e, nil) },
		"Drop":       func(_ *Base, x *Txn) api.Errno { return x.Drop(l[0].e.Key) },
		"Drop, none": func(_ *Base, x *Txn) api.Errno { return x.Drop(of(2, 0, 5).e.Key) },
		"Commit":     func(_ *Base, x *Txn) api.Errno { return x.Commit() },
	} {
		d := loaded(t, image)
		b := mounted(t, d)
		x := begun(t, b)
		over := x
		x.Abort()
		x = begun(t, b)
		d.Fail(0)
		d.Flush()
		want(t, what, first(b, x), api.ErrStop)
		d.Crash(nil)
		wantBaseTold(t, what, b, api.ErrStop)
		wantTold(t, what, x, api.ErrStop)
		wantTold(t, what+", of one that was over", over, api.ErrStop)
		if s := b.Super(); s.Gen != 2 || b.Free() != bitmap.Free(bitmapOf(t, d, b)) {
			t.Error(what, s, b.Free())
		}
		wantMounted(t, what, d, 2, l)
	}
}

// P16.1: power that goes while entries are told: those of the node that was read, then one error.
func TestDarkEntries(t *testing.T) {
	l := chunks(20, 5)
	b, d := filled(t, 100, l...)
	n := 0
	for x, e := range b.Entries() {
		if n++; n == 1 {
			d.Fail(0)
			d.Flush()
		}
		if e != api.OK && (x.Key.Series != 0 || e != api.ErrStop) {
			t.Error(x, e)
		}
		if e != api.OK {
			d.Crash(nil)
		}
	}
	if n < 2 || n > 8 {
		t.Error(n)
	}
	wantBaseTold(t, "behind it", b, api.ErrStop)
	wantMounted(t, "behind it", d, 2, l)
}

// P16.2: wherever power goes in Format of a disk of noughts, and whatever is kept, there is nothing, or the first generation.
func TestPowerFormat(t *testing.T) {
	r := rand.New(rand.NewPCG(16, 3))
	stopped := func(steps int) (*disk.Disk, api.Errno) {
		d := fresh(t, 16)
		d.Fail(steps)
		b, e := Format(d)
		if (b == nil) != (e != api.OK) {
			t.Fatal(e)
		}
		return d, e
	}
	firsts := 0
	for steps := 0; ; steps++ {
		d, e := stopped(steps)
		if e == api.OK {
			d.Crash(nil)
			wantMounted(t, "formatted", d, 1, nil)
			if steps != 14 {
				t.Error(steps)
			}
			break
		}
		for _, fates := range ways(r, d.Waiting()) {
			d, e := stopped(steps)
			want(t, "Format", e, api.ErrStop)
			d.Crash(fates)
			if steps <= 5 && !bytes.Equal(d.Image()[:512], make([]byte, 512)) {
				t.Error("a super ahead of the bitmap")
			}
			if isThere(t, d, 1) {
				firsts++
				wantMounted(t, "a part", d, 1, nil)
			} else if b, e := Mount(d); b != nil || e != api.ErrForm {
				t.Error(b != nil, e)
			}
			if b, e := Format(d); e != api.OK || b.Free() != 13 {
				t.Error(e)
			}
			wantMounted(t, "formatted again", d, 1, nil)
		}
	}
	if firsts == 0 {
		t.Error("never")
	}
}
