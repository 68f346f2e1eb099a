package store

import (
	"bytes"
	"math/rand/v2"
	"testing"

	"rick/api"
	"rick/crc"
	"rick/disk"
	"rick/super"
)

// scene is an image, what it has, a call that changes it, and what should be there then.
type scene struct {
	what  string
	image []byte
	gen   uint64
	has   model
	do    func(s *Store) api.Errno
	next  model
}

// scenes are changes of each kind, on disks of even and odd generations, with much in them and with little.
func scenes(t *testing.T) []scene {
	t.Helper()
	few := model{{1, 6, rising(20, 0, 1)}, {1, 0, rising(100, 50, 1)}, {2, 9, ats(7)}}
	var many model
	for k := range int64(18) {
		many = append(many, lot{int(k % 3), int(k % 16), rising(9, 100*(k*7%18), 3)})
	}
	var all []scene
	lay := func(what string, pages int, has model, op func(m model) (model, api.Errno), do func(s *Store) api.Errno) {
		next, e := op(has)
		want(t, what, e, api.OK)
		s, d, gen := filled(t, pages, has)
		for range 2 {
			all = append(all, scene{what, d.Image(), gen, has, do, next})
			want(t, what, s.Batch(nil), api.OK)
			gen++
		}
	}
	add := func(what string, pages int, has model, series, codec int, l []api.Sample) {
		lay("Append, "+what, pages, has,
			func(m model) (model, api.Errno) { return m.put(series, codec, l) },
			func(s *Store) api.Errno { return s.Append(series, codec, l) })
	}
	drop := func(what string, pages int, has model, series int, from, to int64) {
		lay("Delete, "+what, pages, has,
			func(m model) (model, api.Errno) { return m.remove(series, from, to) },
			func(s *Store) api.Errno { return s.Delete(series, from, to) })
	}
	batch := func(what string, pages int, has model, ops ...Op) {
		lay("Batch, "+what, pages, has,
			func(m model) (model, api.Errno) { return m.batch(ops) },
			func(s *Store) api.Errno { return s.Batch(ops) })
	}
	replace := func(what string, pages int, has model, series int, chunks [][]api.Sample, codecs ...int) {
		lay("Replace, "+what, pages, has,
			func(m model) (model, api.Errno) { return m.replace(series, chunks, codecs) },
			func(s *Store) api.Errno { return s.Replace(series, chunks, codecs) })
	}
	add("to an empty one", 16, nil, 1, 0, rising(30, 0, 1))
	add("to a few", 40, few, 1, 6, rising(30, 200, 1))
	add("with just enough room", 16, few[:1], 7, 0, rising(110, 0, 1))
	add("to many", 100, many, 5, 1, rising(10, 0, 1))
	drop("cut", 40, few, 1, 60, 99)
	drop("one of its two ends", 40, few, 1, 0, 18)
	drop("over several", 40, few, 1, 10, 60)
	drop("all", 16, few[:1], 1, least, most)
	drop("of many", 100, many, 1, 409, 1009)
	batch("of nothing", 16, few[:1])
	batch("of much", 100, many, Op{Series: 2, From: 0, To: 599}, Op{Put: true, Series: 2, Samples: ats(5)}, Op{Put: true, Series: 9, Codec: 3, Samples: rising(60, 0, 1)}, Op{Series: 9, From: 5, To: 9}, Op{Series: 0, From: least, To: most})
	replace("nothing by nothing", 16, few[:1], 9, nil)
	replace("several by one", 40, few, 1, [][]api.Sample{rising(120, 0, 1)}, 4)
	replace("one by several", 40, few, 2, [][]api.Sample{ats(9), ats(3), ats(7)}, 0, 1, 2)
	replace("of many", 100, many, 2, [][]api.Sample{rising(50, 0, 7), rising(5, 1000, 1)}, 8, 9)
	return all
}

// stopped is a scene's call, in which power goes behind so many steps.
func (s scene) stopped(t *testing.T, steps int) (*Store, *disk.Disk, api.Errno) {
	t.Helper()
	d := loaded(t, s.image)
	st := opened(t, d)
	d.Fail(steps)
	return st, d, s.do(st)
}

// wantEither looks whether a disk behind a crash has all that a scene's call should do, or nothing of it, and tells which.
func (s scene) wantEither(t *testing.T, d *disk.Disk) bool {
	t.Helper()
	newest, e := super.Newest(crc.New(), d)
	want(t, s.what, e, api.OK)
	if newest.Gen == s.gen+1 {
		wantStore(t, s.what+", done", opened(t, d), d, s.gen+1, s.next)
		return true
	}
	wantStore(t, s.what+", not done", opened(t, d), d, s.gen, s.has)
	return false
}

// P17.3: wherever power goes in a change, and whatever is kept of what waits, it is there all, or not at all; and all calls tell ErrStop from then on.
func TestPower(t *testing.T) {
	for i, s := range scenes(t) {
		t.Run(s.what, func(t *testing.T) {
			t.Parallel()
			r := rand.New(rand.NewPCG(17, uint64(i)))
			done := 0
			for steps := 0; ; steps++ {
				st, d, e := s.stopped(t, steps)
				if e == api.OK {
					if d.Waiting() != 0 || !d.On() {
						t.Error(d.Waiting())
					}
					d.Crash(nil)
					wantStore(t, s.what, st, d, s.gen+1, s.next)
					wantOpened(t, s.what, d, s.gen+1, s.next)
					break
				}
				for way, fates := range ways(r, d.Waiting()) {
					if s.stops(t, steps, way%2 == 0, fates) {
						done++
					}
				}
			}
			if done == 0 {
				t.Error("never")
			}
		})
	}
}

// stops looks what is behind a call in which power went behind so many steps, and tells whether all of it was done. The Store is asked while power is gone, or not before it is there again.
func (s scene) stops(t *testing.T, steps int, dark bool, fates []disk.Fate) bool {
	t.Helper()
	st, d, e := s.stopped(t, steps)
	want(t, s.what, e, api.ErrStop)
	if dark {
		wantTold(t, s.what+", dark", st, api.ErrStop)
	}
	d.Crash(fates)
	image := d.Image()
	wantTold(t, s.what+", power again", st, api.ErrStop)
	if d.Waiting() != 0 || !bytes.Equal(d.Image(), image) {
		t.Error(s.what, "something was written")
	}
	if s.wantEither(t, d) {
		return true
	}
	want(t, s.what+", again", s.do(opened(t, d)), api.OK)
	wantStore(t, s.what+", again", opened(t, d), d, s.gen+1, s.next)
	return false
}

// P17.3: power that goes between two calls, behind one that was done, and behind one that was refused on its way.
func TestPowerBetween(t *testing.T) {
	r := rand.New(rand.NewPCG(17, 2))
	m := model{{1, 6, rising(20, 0, 1)}}
	_, image, gen := filled(t, 32, m)
	for range 20 {
		d := loaded(t, image.Image())
		s := opened(t, d)
		want(t, "Batch", s.Batch([]Op{{Put: true, Series: 2, Samples: rising(90, 0, 1)}, {Series: 1, From: 5, To: 9}, {Series: 9}}), api.ErrNone)
		all := ways(r, d.Waiting())
		d.Crash(all[r.IntN(len(all))])
		// The Store needn't notice: nothing of it was lost.
		wantStore(t, "behind it", s, d, gen, m)
		want(t, "Append", s.Append(2, 0, ats(3)), api.OK)
		d.Crash(nil)
		wantOpened(t, "behind it", d, gen+1, append(m[:1:1], lot{2, 0, ats(3)}))
	}
}

// P17.1: power that is gone is told by each call that comes first, and ends the Store.
func TestDark(t *testing.T) {
	m := model{{1, 6, rising(20, 0, 1)}, {2, 0, ats(5)}}
	_, image, gen := filled(t, 32, m)
	for what, first := range map[string]func(s *Store) api.Errno{
		"Append":  func(s *Store) api.Errno { return s.Append(1, 0, ats(100)) },
		"Overlap": func(s *Store) api.Errno { return s.Append(1, 0, ats(10)) },
		"Query":   func(s *Store) api.Errno { _, e := s.Query(1, 0, 5); return e },
		"Delete":  func(s *Store) api.Errno { return s.Delete(1, 0, 5) },
		"None":    func(s *Store) api.Errno { return s.Delete(9, 0, 5) },
		"Batch":   func(s *Store) api.Errno { return s.Batch([]Op{{Series: 1}}) },
		"Nothing": func(s *Store) api.Errno { return s.Batch(nil) },
		"Chunks":  func(s *Store) api.Errno { _, _, e := s.Chunks(1); return e },
		"Replace": func(s *Store) api.Errno { return s.Replace(1, nil, nil) },
		"Series":  func(s *Store) api.Errno { _, e := s.Series(); return e },
		"Stat":    func(s *Store) api.Errno { _, e := s.Stat(); return e },
	} {
		d := loaded(t, image.Image())
		s := opened(t, d)
		d.Fail(0)
		d.Flush()
		want(t, what, first(s), api.ErrStop)
		wantTold(t, what+", dark", s, api.ErrStop)
		d.Crash(nil)
		wantTold(t, what+", power again", s, api.ErrStop)
		s.Close()
		wantTold(t, what+", closed", s, api.ErrState)
		wantOpened(t, what, d, gen, m)
	}
}

// P17.3: wherever power goes in Format of a disk of noughts, and whatever is kept, there is nothing, or an empty Store.
func TestPowerFormat(t *testing.T) {
	r := rand.New(rand.NewPCG(17, 3))
	for steps := 0; ; steps++ {
		d := fresh(t, 16)
		d.Fail(steps)
		s, e := Format(d)
		if e == api.OK {
			d.Crash(nil)
			wantStore(t, "formatted", s, d, 1, nil)
			break
		}
		for _, fates := range ways(r, d.Waiting()) {
			d := fresh(t, 16)
			d.Fail(steps)
			if s, e := Format(d); s != nil || e != api.ErrStop {
				t.Error(s != nil, e)
			}
			d.Crash(fates)
			if s, e := Open(d); e == api.OK {
				wantStore(t, "a part", s, d, 1, nil)
			} else if s != nil || e != api.ErrForm {
				t.Error(s != nil, e)
			}
			s, e := Format(d)
			want(t, "Format again", e, api.OK)
			wantStore(t, "formatted again", s, d, 1, nil)
		}
	}
}
