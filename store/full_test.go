package store

import (
	"testing"

	"rick/api"
	"rick/txn"
)

// fill appends chunks of n samples, laid raw, till there is no room, and tells what is there then, and what had no room.
func fill(t *testing.T, s *Store, n int) (model, []api.Sample) {
	t.Helper()
	var m model
	for k := 0; ; k++ {
		l := rising(n, int64(1000*(k*37%509)), 2)
		if e := s.Append(5, 0, l); e != api.OK {
			want(t, "Append", e, api.ErrFull)
			return m, l
		}
		m = append(m, lot{5, 0, l})
	}
}

// P17.1: a Store filled until ErrFull: nothing is changed by that; and behind deleting all as many pages are free as at first.
func TestFull(t *testing.T) {
	for _, pages := range []int{8, 13, 16, 40, 64, 100, 512} {
		for _, n := range []int{1, 16, 200} {
			s, d := formatted(t, pages)
			m, more := fill(t, s, n)
			gen := uint64(1 + len(m))
			wantStore(t, "full", s, d, gen, m)
			wantOpened(t, "full", d, gen, m)
			if roomFor(mapOf(t, d), []int{pagesOf(t, rising(n, 0, 2), 0)}, 12) {
				t.Error(pages, n, "there is room")
			}
			want(t, "Append again", s.Append(5, 0, more), api.ErrFull)
			if len(m) == 0 {
				continue
			}
			want(t, "Append of a span that meets", s.Append(5, 0, rising(n, 0, 2)), api.ErrOverlap)
			want(t, "Delete", s.Delete(5, least, most), api.OK)
			wantStore(t, "all gone", s, d, gen+1, nil)
			wantOpened(t, "all gone", d, gen+1, nil)
			if st, _ := s.Stat(); st.Free != pages-3 {
				t.Error(pages, n, st)
			}
			want(t, "Append", s.Append(5, 0, rising(n, 0, 2)), api.OK)
		}
	}
}

// P17.1: a Store filled until ErrFull, that is emptied chunk by chunk and sample by sample.
func TestFullOneByOne(t *testing.T) {
	for _, n := range []int{1, 10, 30} {
		s, d := formatted(t, 60)
		m, _ := fill(t, s, n)
		gen := uint64(1 + len(m))
		for len(m) > 0 {
			at := m[len(m)/2].last()
			now, _ := m.remove(5, at, at)
			if e := s.Delete(5, at, at); e != api.OK {
				// Of a chunk of several pages what stays may have no room.
				want(t, "Delete of one", e, api.ErrFull)
				wantStore(t, "full", s, d, gen, m)
				now, _ = m.remove(5, m[len(m)/2].first(), at)
				want(t, "Delete of a chunk", s.Delete(5, m[len(m)/2].first(), at), api.OK)
			}
			m = now
			gen++
			wantStore(t, "a part gone", s, d, gen, m)
		}
		if st, _ := s.Stat(); st.Free != 57 {
			t.Error(st)
		}
	}
}

// P17.1: each kind of change, if there is no room for it: nothing is changed, and others can be done.
func TestNoRoom(t *testing.T) {
	whole := rising(200, 0, 1) // 13 pages
	m := model{{1, 0, whole}, {2, 6, ats(1, 2)}}
	for what, do := range map[string]func(s *Store) api.Errno{
		"Append":               func(s *Store) api.Errno { return s.Append(3, 0, whole) },
		"Append to its series": func(s *Store) api.Errno { return s.Append(1, 0, rising(200, 500, 1)) },
		"Delete":               func(s *Store) api.Errno { return s.Delete(1, 100, 100) },
		"Delete of an end":     func(s *Store) api.Errno { return s.Delete(1, 199, 199) },
		"Batch": func(s *Store) api.Errno {
			return s.Batch([]Op{{Put: true, Series: 3, Samples: ats(1)}, {Put: true, Series: 3, Samples: rising(200, 5, 1)}})
		},
		"Batch, wrong behind it": func(s *Store) api.Errno {
			return s.Batch([]Op{{Put: true, Series: 3, Samples: whole}, {Series: -1}})
		},
		"Batch of deletes": func(s *Store) api.Errno {
			return s.Batch([]Op{{Series: 2, From: 1, To: 1}, {Series: 1, From: 100, To: 100}})
		},
		"Replace": func(s *Store) api.Errno {
			return s.Replace(1, [][]api.Sample{whole[:100], whole[100:]}, []int{0, 0})
		},
		"Replace by itself": func(s *Store) api.Errno { return s.Replace(1, [][]api.Sample{whole}, []int{0}) },
		"Replace of none":   func(s *Store) api.Errno { return s.Replace(3, [][]api.Sample{whole}, []int{0}) },
	} {
		s, d, gen := filled(t, 32, m)
		want(t, "Append", s.Append(4, 0, rising(40, 0, 1)), api.OK) // 3 pages
		now, _ := m.put(4, 0, rising(40, 0, 1))
		gen++
		for range 2 {
			want(t, what, do(s), api.ErrFull)
			wantStore(t, what, s, d, gen, now)
			wantOpened(t, what, d, gen, now)
		}
		want(t, "Delete behind "+what, s.Delete(2, 2, 2), api.OK)
		now, _ = now.remove(2, 2, 2)
		wantStore(t, "behind "+what, s, d, gen+1, now)
		d.Crash(nil)
		wantOpened(t, "behind "+what, d, gen+1, now)
	}
}

// P17.1: where there is just enough room nothing is told to be full; with a page less it is.
func TestJustEnough(t *testing.T) {
	var m model
	for k := range int64(7) {
		m = append(m, lot{5, 6, ats(100*k, 100*k+1)})
	}
	for what, do := range map[string]func(s *Store) api.Errno{
		"Delete":  func(s *Store) api.Errno { return s.Delete(5, 300, 300) },
		"Replace": func(s *Store) api.Errno { return s.Replace(5, [][]api.Sample{ats(7)}, []int{0}) },
	} {
		// A page of the chunk, one of the tree, one of the bitmap.
		for more := range 2 {
			s, d, gen := filled(t, 14-more, m)
			if more == 0 {
				want(t, what, do(s), api.OK)
				continue
			}
			want(t, what, do(s), api.ErrFull)
			wantStore(t, what, s, d, gen, m)
		}
	}
}

// P17.4: with its pages side by side, and twelve more, a chunk has room, whatever the tree is.
func TestTwelve(t *testing.T) {
	tried := 0
	for _, n := range []int{1, 16, 30, 200} {
		l := rising(n, 60500, 1)
		size := pagesOf(t, l, 0)
		for k := range 120 {
			// The same chunks stand at the same pages of a disk of another size.
			var m model
			for i := range k {
				m = append(m, lot{3, 6, ats(int64(1000 * (i * 41 % 120)))})
			}
			s, _, gen := filled(t, 300, m)
			st, _ := s.Stat()
			pages := 300 - st.Free + size + 12
			if pages < api.MinPages {
				continue
			}
			s, d, gen := filled(t, pages, m)
			if st, _ := s.Stat(); st.Free != size+12 || !roomFor(mapOf(t, d), []int{size}, 12) {
				t.Fatal(n, k, st)
			}
			tried++
			want(t, "Append", s.Append(3, 0, l), api.OK)
			m, _ = m.put(3, 0, l)
			wantStore(t, "Append", s, d, gen+1, m)
		}
	}
	if tried < 400 {
		t.Error(tried)
	}
}

// parted is a disk on which but a few pages are free side by side, and these ahead of others that aren't, with a chunk of 200 samples; nothing, if there is no room to lay it so.
func parted(t *testing.T, pages, n int) ([]byte, model) {
	t.Helper()
	ops := []Op{{Put: true, Series: 1, Samples: rising(75, 0, 1)}} // 5 pages
	for k := range n {
		ops = append(ops, Op{Put: true, Series: 2, Samples: ats(int64(k))})
		if k == n/2 {
			ops = append(ops, Op{Put: true, Series: 1, Samples: rising(30, 100, 1)}) // 2 pages
		}
	}
	ops = append(ops, Op{Put: true, Series: 3, Samples: rising(200, 0, 1)})
	gone := []Op{{Series: 1, From: least, To: most}}
	for k := range n / 2 {
		gone = append(gone, Op{Series: 2, From: int64(2 * k), To: int64(2 * k)})
	}
	s, d := formatted(t, pages)
	var m model
	for _, l := range [][]Op{ops, gone} {
		if s.Batch(l) != api.OK {
			return nil, nil
		}
		m, _ = m.batch(l)
	}
	return d.Image(), m
}

// P17.4: what stays of a chunk, and what comes in place of others, has room wherever its pages are free side by side, and twelve more; also where the tree's nodes would have been written between those.
func TestParted(t *testing.T) {
	whole := rising(200, 0, 1)
	head, tail, few := whole[:75], whole[125:], whole[:20]
	for _, c := range []struct {
		what string
		l    [][]api.Sample // what stays of series 3, or comes
		plan func(x *txn.Txn) (swap, api.Errno)
		do   func(s *Store) api.Errno
	}{
		{
			"Delete of an end", [][]api.Sample{head},
			func(x *txn.Txn) (swap, api.Errno) { return thinning(x, 3, 75, most) },
			func(s *Store) api.Errno { return s.Delete(3, 75, most) },
		},
		{
			"Delete of the middle", [][]api.Sample{few, tail},
			func(x *txn.Txn) (swap, api.Errno) { return thinning(x, 3, 20, 124) },
			func(s *Store) api.Errno { return s.Delete(3, 20, 124) },
		},
		{
			"Replace", [][]api.Sample{few, tail},
			func(x *txn.Txn) (swap, api.Errno) { return replacing(x, 3, [][]api.Sample{few, tail}, []int{0, 0}) },
			func(s *Store) api.Errno { return s.Replace(3, [][]api.Sample{few, tail}, []int{0, 0}) },
		},
	} {
		var sizes []int
		for _, l := range c.l {
			sizes = append(sizes, pagesOf(t, l, 0))
		}
		tight := 0
		for n := 16; n < 40; n += 6 {
			for pages := 50; pages < 110; pages++ {
				image, m := parted(t, pages, n)
				if image == nil || !roomFor(mapOf(t, loaded(t, image)), sizes, 12) {
					continue
				}
				d := loaded(t, image)
				if !hasRoom(t, opened(t, d), c.plan) {
					tight++
				}
				d = loaded(t, image)
				s := opened(t, d)
				want(t, c.what, c.do(s), api.OK)
				m, e := m.replace(3, c.l, make([]int, len(c.l)))
				want(t, "model", e, api.OK)
				wantStore(t, c.what, s, d, 4, m)
				wantOpened(t, c.what, d, 4, m)
			}
		}
		if tight == 0 {
			t.Error(c.what, "there is always room")
		}
	}
}

// hasRoom tells whether a swap has room if all that goes goes first.
func hasRoom(t *testing.T, s *Store, plan func(x *txn.Txn) (swap, api.Errno)) bool {
	t.Helper()
	x, e := s.b.Begin()
	want(t, "Begin", e, api.OK)
	w, e := plan(x)
	want(t, "plan", e, api.OK)
	if e = w.do(x); e == api.OK {
		e = x.Commit()
	}
	if e != api.OK {
		want(t, "swap", e, api.ErrFull)
	}
	return e == api.OK
}
