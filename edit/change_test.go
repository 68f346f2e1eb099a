package edit

import (
	"bytes"
	"cmp"
	"math/rand/v2"
	"slices"
	"testing"

	"rick/api"
	"rick/chunk"
	"rick/disk"
	"rick/store"
)

// scene is a disk's image, of generation 2, a call that lays its series 5 anew, and what should be there then.
type scene struct {
	what  string
	image []byte
	has   model
	do    func(s *store.Store) api.Errno
	next  model
}

// scenes are both calls, of one chunk and of several, by each way to tell a codec.
func scenes(t *testing.T, pages int) []scene {
	t.Helper()
	var all []scene
	for what, l := range map[string][]lot{
		"one":     row(30),
		"several": row(20, 1, 40, 3, 3),
		"many":    row(slices.Repeat([]int{4}, 9)...),
		"large":   row(200, 150),
	} {
		has := around(l)
		_, d := filled(t, pages, has)
		for _, codec := range []int{Best, 14} {
			all = append(all, scene{
				"Recompress of " + what, d.Image(), has,
				func(s *store.Store) api.Errno { return Recompress(s, 5, codec) },
				has.with(5, recompressed(t, l, codec)...),
			})
			limit := 104 + 96*codec/14 // 97 or 200
			all = append(all, scene{
				"Compact of " + what, d.Image(), has,
				func(s *store.Store) api.Errno { return Compact(s, 5, limit, codec) },
				has.with(5, compacted(t, l, limit, codec)...),
			})
		}
	}
	slices.SortStableFunc(all, func(a, b scene) int { return cmp.Compare(a.what, b.what) })
	return all
}

// stopped is a scene's call, in which power goes behind so many steps.
func (s scene) stopped(t *testing.T, steps int) (*store.Store, *disk.Disk, api.Errno) {
	t.Helper()
	d := loaded(t, s.image)
	st := opened(t, d)
	d.Fail(steps)
	return st, d, s.do(st)
}

// P18.1, P18.2: wherever power goes, and whatever is kept of what waits, all is laid anew, or nothing is; no answer of a Query is another one.
func TestPower(t *testing.T) {
	for i, s := range scenes(t, 160) {
		t.Run(s.what, func(t *testing.T) {
			t.Parallel()
			r := rand.New(rand.NewPCG(18, uint64(i)))
			done, undone := 0, 0
			for steps := 0; ; steps++ {
				st, d, e := s.stopped(t, steps)
				if e == api.OK {
					d.Crash(nil)
					wantStore(t, s.what, st, 3, s.next)
					wantOpened(t, s.what, d, 3, s.next)
					break
				}
				for way, fates := range ways(r, d.Waiting()) {
					if s.stops(t, steps, fates, steps%16 == way) {
						done++
					} else {
						undone++
					}
				}
			}
			if done == 0 || undone == 0 {
				t.Error(done, undone)
			}
		})
	}
}

// stops looks what is behind a call in which power went behind so many steps, and tells whether all of it was done. If it looks well, it asks for much.
func (s scene) stops(t *testing.T, steps int, fates []disk.Fate, well bool) bool {
	t.Helper()
	st, d, e := s.stopped(t, steps)
	want(t, s.what, e, api.ErrStop)
	want(t, s.what+", dark", s.do(st), api.ErrStop)
	d.Crash(fates)
	image := d.Image()
	want(t, s.what+", power again", s.do(st), api.ErrStop)
	if l, e := Sizes(st, 5); len(l) != 0 || e != api.ErrStop {
		t.Error(l, e)
	}
	if !bytes.Equal(d.Image(), image) {
		t.Error(s.what, "something was written")
	}
	st = opened(t, d)
	if stat, _ := st.Stat(); stat.Gen == 3 {
		wantStore(t, s.what+", done", st, 3, s.next)
		return true
	}
	wantStore(t, s.what+", not done", st, 2, s.has)
	if well {
		wantAnswers(t, s.what+", not done", st, 5, s.has[5])
		want(t, s.what+", again", s.do(st), api.OK)
		wantStore(t, s.what+", again", st, 3, s.next)
	}
	return false
}

// P18.1, P18.2: of disks with more and more room: where there is too little, nothing is changed; from enough on all is done.
func TestRoom(t *testing.T) {
	large := 160
	for i, s := range scenes(t, large) {
		st := opened(t, loaded(t, s.image))
		stat, _ := st.Stat()
		full, done := 0, 0
		for pages := max(large-stat.Free, api.MinPages); pages < large && done < 20; pages++ {
			d := fresh(t, pages)
			if !fills(t, d, s.has) {
				continue
			}
			st := opened(t, d)
			still := unchanged(t, st, d, 2, s.has)
			if e := s.do(st); e != api.OK {
				want(t, s.what, e, api.ErrFull)
				still(s.what + ", full")
				want(t, s.what+", once more", s.do(st), api.ErrFull)
				still(s.what + ", full again")
				wantAnswers(t, s.what+", full", st, 5, s.has[5])
				want(t, "wrong codec", Recompress(st, 5, 16), api.ErrArg)
				want(t, "none", Compact(st, 9, 200, 0), api.ErrNone)
				if done > 0 {
					t.Error(i, s.what, pages, "there is room on a smaller one")
				}
				full++
				continue
			}
			wantStore(t, s.what, st, 3, s.next)
			wantOpened(t, s.what, d, 3, s.next)
			done++
		}
		if full == 0 || done == 0 {
			t.Error(s.what, full, done)
		}
	}
}

// P18.2: where there was no room there is, when something else is gone.
func TestRoomAgain(t *testing.T) {
	l := row(200, 40)
	l[0].codec, l[1].codec = 0, 0
	m := model{5: l, 6: {{0, samples(1, 200, 0)}}}
	s, d := filled(t, 36, m)
	still := unchanged(t, s, d, 2, m)
	want(t, "Recompress", Recompress(s, 5, 1), api.ErrFull)
	want(t, "Compact", Compact(s, 5, 200, 1), api.ErrFull)
	still("full")
	want(t, "Delete", s.Delete(6, least, most), api.OK)
	want(t, "Recompress", Recompress(s, 5, 1), api.OK)
	wantStore(t, "room again", s, 4, model{5: recompressed(t, l, 1)})
}

// P18.1, P18.2: random lives, against plain lists of chunks; each Recompress and Compact is done as it should, or there is no room.
func TestLives(t *testing.T) {
	for seed := range uint64(30) {
		t.Run("", func(t *testing.T) {
			t.Parallel()
			r := rand.New(rand.NewPCG(18, seed))
			d := fresh(t, 40+r.IntN(200))
			s, e := store.Format(d)
			want(t, "Format", e, api.OK)
			m, gen, done := model{}, uint64(1), 0
			for range 60 {
				series := r.IntN(3)
				now, did := live(t, r, s, m, series)
				if did {
					gen++
					m = now
					done++
				}
				wantStore(t, "life", s, gen, m)
				wantAnswers(t, "life", s, series, m[series])
				wantSizes(t, s, series, m[series])
				if r.IntN(9) == 0 {
					d.Crash(nil)
					s = opened(t, d)
				}
			}
			if done < 20 {
				t.Error(done)
			}
		})
	}
}

// live does something with a series, and tells what is there then, and whether anything was done.
func live(t *testing.T, r *rand.Rand, s *store.Store, m model, series int) (model, bool) {
	t.Helper()
	l := m[series]
	codec := r.IntN(chunk.Codecs+1) - 1
	var now []lot
	var e api.Errno
	none := len(l) == 0
	switch r.IntN(5) {
	case 0:
		now = recompressed(t, l, codec)
		e = Recompress(s, series, codec)
	case 1:
		limit := 1 + r.IntN(200)
		now = compacted(t, l, limit, codec)
		e = Compact(s, series, limit, codec)
	default:
		c := lot{r.IntN(chunk.Codecs), samples(r.IntN(4), 1+r.IntN(1+r.IntN(60)), int64(r.IntN(40))<<40)}
		return appended(t, s, m, series, c)
	}
	if none {
		want(t, "of none", e, api.ErrNone)
		return m, false
	}
	if e == api.ErrFull {
		return m, false
	}
	want(t, "laid anew", e, api.OK)
	return m.with(series, now...), true
}

// appended is a model with a chunk more, if it may be.
func appended(t *testing.T, s *store.Store, m model, series int, c lot) (model, bool) {
	t.Helper()
	switch e := s.Append(series, c.codec, c.l); e {
	case api.OK:
	case api.ErrFull, api.ErrOverlap:
		return m, false
	default:
		t.Fatal(e)
	}
	l := append(slices.Clone(m[series]), c)
	slices.SortFunc(l, func(a, b lot) int { return cmp.Compare(a.l[0].At, b.l[0].At) })
	return m.with(series, l...), true
}
