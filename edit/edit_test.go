package edit

import (
	"math"
	"slices"
	"testing"

	"rick/api"
	"rick/chunk"
	"rick/crc"
	"rick/disk"
	"rick/node"
	"rick/page"
	"rick/store"
	"rick/super"
	"rick/txn"
)

// around is a model in which series 5 has a row, beside others that have to stay as they are.
func around(l []lot) model {
	return model{4: row(9, 3, 1), 5: l, 6: row(2, 2, 2, 2)}
}

// P18.1, P18.2: each codec, and Best, of chunks of all codecs; the other series stay.
func TestRecompress(t *testing.T) {
	rows := [][]lot{row(1), row(200), row(1, 1, 1), row(3, 50, 7, 20), nil}
	for codec := range chunk.Codecs {
		rows[4] = append(rows[4], lot{codec, samples(codec/4, 5, int64(codec-4)<<40)})
	}
	for _, l := range rows {
		m := around(l)
		_, image := filled(t, 250, m)
		for codec := Best; codec < chunk.Codecs; codec++ {
			d := loaded(t, image.Image())
			s := opened(t, d)
			wantAnswers(t, "ahead", s, 5, l)
			want(t, "Recompress", Recompress(s, 5, codec), api.OK)
			now := m.with(5, recompressed(t, l, codec)...)
			wantStore(t, "Recompress", s, 3, now)
			wantOpened(t, "Recompress", d, 3, now)
			wantAnswers(t, "behind", s, 5, l)
			// The same once more: a generation, and nothing else.
			want(t, "Recompress again", Recompress(s, 5, codec), api.OK)
			wantStore(t, "Recompress again", s, 4, now)
			wantAnswers(t, "again", s, 5, l)
		}
	}
}

// P18.1: from the first one on, as long as there are no more than most.
func TestCompact(t *testing.T) {
	for _, c := range []struct {
		most         int
		counts, then []int
	}{
		{2, []int{1, 1, 1}, []int{2, 1}}, // the chapter's example
		{1, []int{1, 1, 1}, []int{1, 1, 1}},
		{1, []int{1}, []int{1}},
		{1, []int{5, 1, 7}, []int{5, 1, 7}},
		{3, []int{1, 1, 1}, []int{3}},
		{200, []int{1, 1, 1}, []int{3}},
		{4, []int{2, 2}, []int{4}},
		{4, []int{2, 3}, []int{2, 3}},
		{4, []int{2, 3, 1}, []int{2, 4}},
		{4, []int{2, 2, 2, 2, 2}, []int{4, 4, 2}},
		{4, []int{1, 2, 1, 3, 1, 1, 3}, []int{4, 4, 4}},
		{4, []int{3, 2, 2, 3, 2}, []int{3, 4, 3, 2}},
		{4, []int{5}, []int{5}},
		{4, []int{1, 5, 1, 2}, []int{1, 5, 3}},
		{4, []int{5, 1, 1, 5, 5, 3, 1}, []int{5, 2, 5, 5, 4}},
		{4, []int{4, 1, 4}, []int{4, 1, 4}},
		{5, []int{4, 1, 4}, []int{5, 4}},
		{9, []int{10, 8, 1, 1, 9}, []int{10, 9, 1, 9}},
		{200, []int{100, 100, 1}, []int{200, 1}},
		{200, []int{100, 101, 99}, []int{100, 200}},
		{199, []int{100, 100, 99}, []int{100, 199}},
		{200, []int{200, 1, 199, 200}, []int{200, 200, 200}},
		{100, []int{200, 60, 40, 41, 60, 200}, []int{200, 100, 41, 60, 200}},
		{200, slices.Repeat([]int{7}, 60), append(slices.Repeat([]int{196}, 2), 28)},
	} {
		l := row(c.counts...)
		m := around(l)
		_, image := filled(t, 300, m)
		for _, codec := range []int{Best, 0, 6, 15} {
			d := loaded(t, image.Image())
			s := opened(t, d)
			wantAnswers(t, "ahead", s, 5, l)
			want(t, "Compact", Compact(s, 5, c.most, codec), api.OK)
			now := compacted(t, l, c.most, codec)
			var counts []int
			for _, part := range now {
				counts = append(counts, len(part.l))
			}
			if !slices.Equal(counts, c.then) {
				t.Fatal(c, counts)
			}
			wantStore(t, "Compact", s, 3, m.with(5, now...))
			wantOpened(t, "Compact", d, 3, m.with(5, now...))
			wantAnswers(t, "behind", s, 5, l)
			want(t, "Compact again", Compact(s, 5, c.most, codec), api.OK)
			wantStore(t, "Compact again", s, 4, m.with(5, now...))
		}
	}
}

// P18.1: the ends of what a series and a time may be.
func TestEnds(t *testing.T) {
	for _, series := range []int{0, mostSeries} {
		l := []lot{{0, []api.Sample{{At: least, Val: math.MaxUint64}}}, {9, []api.Sample{{At: -1}, {At: 0, Val: 1}}}, {3, []api.Sample{{At: most}}}}
		s, _ := filled(t, 64, model{series: l})
		want(t, "Recompress", Recompress(s, series, 13), api.OK)
		wantStore(t, "Recompress", s, 3, model{series: recompressed(t, l, 13)})
		want(t, "Compact", Compact(s, series, 3, Best), api.OK)
		wantStore(t, "Compact", s, 4, model{series: compacted(t, l, 3, Best)})
		want(t, "Compact", Compact(s, series, 4, 7), api.OK)
		wantStore(t, "Compact", s, 5, model{series: {{7, joined(l)}}})
	}
}

// P18.3: by Best no chunk has more bytes than by another codec; behind Compact no two side by side could be put together.
func TestBest(t *testing.T) {
	used := map[int]bool{}
	for taste := range 4 {
		for _, n := range []int{1, 2, 40} {
			for _, limit := range []int{0, 1, 50, 200} {
				l := []lot{{0, samples(taste, n, 0)}, {1, samples(taste+1, n, 1<<40)}, {15, samples(taste, n, 1<<41)}}
				s, _ := filled(t, 120, model{5: l})
				if limit == 0 {
					want(t, "Recompress", Recompress(s, 5, Best), api.OK)
				} else {
					want(t, "Compact", Compact(s, 5, limit, Best), api.OK)
				}
				chunks, codecs, e := s.Chunks(5)
				want(t, "Chunks", e, api.OK)
				sizes, e := Sizes(s, 5)
				want(t, "Sizes", e, api.OK)
				for i, c := range chunks {
					used[codecs[i]] = true
					if limit > 0 && i > 0 && len(c)+len(chunks[i-1]) <= limit {
						t.Error(limit, len(c), len(chunks[i-1]))
					}
					for codec := range chunk.Codecs {
						b, _ := chunk.Encode(c, codec)
						if len(b) < sizes[i] || len(b) == sizes[i] && codec < codecs[i] {
							t.Error(sizes[i], codecs[i], len(b), codec)
						}
					}
				}
			}
		}
	}
	if len(used) < 4 {
		t.Error(used)
	}
}

// P18.1: Sizes, by each codec, of one chunk and of several, rising; of none nothing.
func TestSizes(t *testing.T) {
	l := row(1, 2, 30, 200, 9)
	back := slices.Clone(l)
	slices.Reverse(back)
	d := fresh(t, 200)
	s, e := store.Format(d)
	want(t, "Format", e, api.OK)
	for i, c := range back {
		want(t, "Append", s.Append(5, c.codec, c.l), api.OK)
		want(t, "Append", s.Append(6, i, samples(3, 7, 0)[i:i+1]), api.OK)
		wantSizes(t, s, 5, l[len(l)-1-i:])
	}
	for codec := Best; codec < chunk.Codecs; codec++ {
		want(t, "Recompress", Recompress(s, 5, codec), api.OK)
		wantSizes(t, s, 5, recompressed(t, l, codec))
		wantSizes(t, opened(t, d), 5, recompressed(t, l, codec))
	}
	for _, series := range []int{0, 4, 7, mostSeries} {
		wantSizes(t, s, series, nil)
	}
	gen, _ := s.Stat()
	want(t, "Delete", s.Delete(5, least, most), api.OK)
	wantSizes(t, s, 5, nil)
	if st, _ := s.Stat(); st.Gen != gen.Gen+1 {
		t.Error(st, gen)
	}
	// An answer is new memory.
	want(t, "Append", s.Append(5, 0, samples(0, 4, 0)), api.OK)
	first, _ := Sizes(s, 5)
	first[0] = 99
	if second, _ := Sizes(s, 5); second[0] != 3+4*16 {
		t.Error(second)
	}
}

func wantSizes(t *testing.T, s *store.Store, series int, l []lot) {
	t.Helper()
	var should []int
	for _, c := range l {
		b, e := chunk.Encode(c.l, c.codec)
		want(t, "Encode", e, api.OK)
		should = append(should, len(b))
	}
	if sizes, e := Sizes(s, series); e != api.OK || !slices.Equal(sizes, should) {
		t.Errorf("Sizes(%d): %v, %d, not %v", series, sizes, e, should)
	}
}

// P18.1, P18.2: what is refused, in the chapter's order; nothing is changed.
func TestWrong(t *testing.T) {
	m := around(row(1, 2, 3))
	s, d := filled(t, 100, m)
	still := unchanged(t, s, d, 2, m)
	for _, series := range []int{-1, math.MinInt, mostSeries + 1, math.MaxInt, 9, 5} {
		should := api.ErrArg
		switch series {
		case 9:
			should = api.ErrNone
		case 5:
			should = api.OK
		}
		for _, codec := range []int{Best, 0, 15, -2, 16, math.MinInt, math.MaxInt} {
			right := codec >= -1 && codec <= 15
			e := should
			if !right {
				e = api.ErrArg
			}
			if e != api.OK {
				want(t, "Recompress", Recompress(s, series, codec), e)
				want(t, "Compact", Compact(s, series, 1, codec), e)
				want(t, "Compact", Compact(s, series, 200, codec), e)
			}
			for _, limit := range []int{0, 201, -1, math.MinInt, math.MaxInt} {
				want(t, "Compact", Compact(s, series, limit, codec), api.ErrArg)
			}
		}
		if l, e := Sizes(s, series); series < 0 || series > mostSeries {
			if e != api.ErrArg || len(l) != 0 {
				t.Error(series, l, e)
			}
		}
		still("refused")
	}
}

// P18.1: a Store that isn't, that is closed, or that is ended by power tells that, ahead of what is wrong with arguments.
func TestNoStore(t *testing.T) {
	m := around(row(1, 2, 3))
	_, image := filled(t, 100, m)
	closed, ended := opened(t, image), loaded(t, image.Image())
	closed.Close()
	dark := opened(t, ended)
	ended.Fail(0)
	ended.Flush()
	for _, c := range []struct {
		s      *store.Store
		should api.Errno
	}{{nil, api.ErrArg}, {&store.Store{}, api.ErrArg}, {closed, api.ErrState}, {dark, api.ErrStop}} {
		for range 2 {
			for _, series := range []int{5, 9, -1} {
				for _, codec := range []int{Best, 0, 99} {
					want(t, "Recompress", Recompress(c.s, series, codec), c.should)
					want(t, "Compact", Compact(c.s, series, 2, codec), c.should)
					want(t, "Compact", Compact(c.s, series, 201, codec), c.should)
				}
				if l, e := Sizes(c.s, series); len(l) != 0 || e != c.should {
					t.Error(l, e)
				}
			}
			// Behind a crash it is ended still.
			if c.should == api.ErrStop {
				ended.Crash(nil)
			}
		}
	}
	wantOpened(t, "ended", ended, 2, m)
}

// P18.1, P18.2: a chunk that can't be read is told ahead of what is wrong with codec and most, and nothing is changed; other series needn't it.
func TestDamaged(t *testing.T) {
	l := row(3, 4, 5)
	m := around(l)
	_, image := filled(t, 100, m)
	for i, x := range entriesOf(t, image, 5) {
		d := loaded(t, image.Image())
		b, _ := d.Read(4 * x.Addr)
		b[x.Len/2] ^= 4
		want(t, "Write", d.Write(4*x.Addr, b), api.OK)
		want(t, "Flush", d.Flush(), api.OK)
		s := opened(t, d)
		before := d.Image()
		for _, codec := range []int{Best, 0, 16} {
			want(t, "Recompress", Recompress(s, 5, codec), api.ErrForm)
			want(t, "Compact", Compact(s, 5, 200, codec), api.ErrForm)
			want(t, "Compact", Compact(s, 5, 0, codec), api.ErrForm)
		}
		if sizes, e := Sizes(s, 5); len(sizes) != 0 || e != api.ErrForm {
			t.Error(i, sizes, e)
		}
		if !slices.Equal(d.Image(), before) {
			t.Error(i, "changed")
		}
		want(t, "Compact of another one", Compact(s, 6, 200, Best), api.OK)
		delete(m, 5)
		want(t, "Replace", s.Replace(5, nil, nil), api.OK)
		wantStore(t, "without it", s, 4, m.with(6, compacted(t, m[6], 200, Best)...))
		m[5] = l
	}
}

// entriesOf is what a disk's tree tells of a series.
func entriesOf(t *testing.T, d *disk.Disk, series int) []node.Entry {
	t.Helper()
	b, e := txn.Mount(d)
	want(t, "Mount", e, api.OK)
	var l []node.Entry
	for x, e := range b.Entries() {
		want(t, "Entries", e, api.OK)
		if x.Key.Series == series {
			l = append(l, x)
		}
	}
	if len(l) == 0 {
		t.Fatal("no entry")
	}
	return l
}

// P18.1: behind the last generation there is none: Replace's error, and nothing is changed.
func TestLastGeneration(t *testing.T) {
	m := around(row(3, 4))
	_, d := filled(t, 64, m)
	last, e := super.Newest(crc.New(), d)
	want(t, "Newest", e, api.OK)
	last.Gen = math.MaxUint64
	want(t, "Write", super.Write(crc.New(), d, last), api.OK)
	want(t, "Flush", d.Flush(), api.OK)
	s := opened(t, d)
	want(t, "Recompress", Recompress(s, 5, 0), api.ErrArg)
	want(t, "Compact", Compact(s, 5, 200, 0), api.ErrArg)
	want(t, "Compact of none", Compact(s, 7, 200, 0), api.ErrNone)
	wantStore(t, "last", s, math.MaxUint64, m)
}

// P18.1: a node that can't be read is told as Replace tells it, also if Chunks doesn't meet it.
func TestDamagedNode(t *testing.T) {
	m := model{1: row(1, 2, 3)}
	for series := 2; series < 12; series++ {
		m[series] = row(1)
	}
	_, d := filled(t, 100, m)
	last, _ := super.Newest(crc.New(), d)
	if last.Root.Height != 2 {
		t.Fatal(last)
	}
	p, e := page.Read(crc.New(), d, last.Root.Addr, page.Inner)
	want(t, "Read", e, api.OK)
	n, e := node.Get(false, p.Body)
	want(t, "Get", e, api.OK)
	want(t, "WriteRaw", page.WriteRaw(d, n.Kids[len(n.Kids)-1], []byte{1}), api.OK)
	want(t, "Flush", d.Flush(), api.OK)
	s := opened(t, d)
	before := d.Image()
	want(t, "Recompress", Recompress(s, 1, 0), api.ErrForm)
	want(t, "Recompress, wrong", Recompress(s, 1, 16), api.ErrArg)
	want(t, "Compact of none", Compact(s, 0, 200, 0), api.ErrNone)
	if !slices.Equal(d.Image(), before) {
		t.Error("changed")
	}
	if l, e := Sizes(s, 1); len(l) != 3 || e != api.OK {
		t.Error(l, e)
	}
}
