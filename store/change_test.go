package store

import (
	"math"
	"slices"
	"testing"

	"rick/api"
	"rick/chunk"
)

// P17.1: of a chunk of each codec the first, the last, middle ones, all, none; what stays is a chunk ahead and one behind, by its codec.
func TestDelete(t *testing.T) {
	for codec := range chunk.Codecs {
		m := model{{4, 1, ats(0, 5, 9)}, {5, codec, ats(10, 20, 30, 40, 50)}, {6, 2, ats(10, 50)}}
		_, image, gen := filled(t, 64, m)
		for _, c := range []struct {
			from, to int64
			parts    []int // how many samples are in the chunks that stay
		}{
			{10, 10, []int{4}}, {0, 10, []int{4}}, {least, 19, []int{4}}, {10, 20, []int{3}}, {5, 45, []int{1}},
			{50, 50, []int{4}}, {50, most, []int{4}}, {41, 60, []int{4}}, {11, 50, []int{1}}, {15, most, []int{1}},
			{20, 20, []int{1, 3}}, {30, 30, []int{2, 2}}, {40, 40, []int{3, 1}}, {11, 49, []int{1, 1}}, {20, 40, []int{1, 1}}, {15, 25, []int{1, 3}},
			{10, 50, nil}, {least, most, nil}, {9, 51, nil}, {10, 51, nil}, {9, 50, nil},
		} {
			d := loaded(t, image.Image())
			s := opened(t, d)
			want(t, "Delete", s.Delete(5, c.from, c.to), api.OK)
			now, e := m.remove(5, c.from, c.to)
			if e != api.OK || len(now) != 2+len(c.parts) {
				t.Fatal(now, e)
			}
			for i, part := range now.of(5) {
				if len(part.l) != c.parts[i] || part.codec != codec {
					t.Fatal(part, c)
				}
			}
			wantStore(t, "Delete", s, d, gen+1, now)
			wantOpened(t, "Delete", d, gen+1, now)
			want(t, "Delete again", s.Delete(5, c.from, c.to), api.ErrNone)
			wantStore(t, "Delete again", s, d, gen+1, now)
		}
		d := loaded(t, image.Image())
		s := opened(t, d)
		still := unchanged(t, s, d, gen, m)
		for _, c := range [][2]int64{{least, 9}, {51, most}, {11, 19}, {15, 15}, {21, 29}, {41, 49}, {least, least}, {most, most}} {
			want(t, "Delete of none", s.Delete(5, c[0], c[1]), api.ErrNone)
		}
		for _, series := range []int{0, 3, 7, mostSeries} {
			want(t, "Delete of no chunk", s.Delete(series, least, most), api.ErrNone)
		}
		still("Delete of none")
	}
}

// P17.1: over several chunks: those between go whole, the outer ones in part, those of which nothing is in the range stay as they are.
func TestDeleteSeveral(t *testing.T) {
	var m model
	for k := range int64(40) {
		m = append(m, lot{5, int(k % 16), rising(5, 100*k, 10)}, lot{6, 0, ats(100 * k)})
	}
	_, image, gen := filled(t, 300, m)
	edges := []int64{least, -1, 0, 20, 40, 41, 99, 100, 140, 141, 500, 515, 2025, 3900, 3940, 3941, most}
	for i, from := range edges {
		for _, to := range edges[i:] {
			d := loaded(t, image.Image())
			s := opened(t, d)
			now, e := m.remove(5, from, to)
			want(t, "Delete", s.Delete(5, from, to), e)
			if e == api.OK {
				wantOpened(t, "Delete", d, gen+1, now)
				wantStore(t, "Delete", s, d, gen+1, now)
			} else {
				wantStore(t, "Delete of none", s, d, gen, m)
			}
		}
	}
}

// P17.1: what is deleted leaves a gap in which another chunk may be.
func TestGap(t *testing.T) {
	s, d, gen := filled(t, 64, model{{1, 7, rising(20, 0, 1)}})
	want(t, "Delete", s.Delete(1, 5, 9), api.OK)
	for _, l := range [][]api.Sample{ats(4, 5), ats(9, 10), ats(4), ats(10), ats(4, 10), ats(0)} {
		want(t, "Append", s.Append(1, 0, l), api.ErrOverlap)
	}
	want(t, "Append", s.Append(1, 0, ats(5, 9)), api.OK)
	wantOpened(t, "in the gap", d, gen+2, model{{1, 7, rising(20, 0, 1)[:5]}, {1, 0, ats(5, 9)}, {1, 7, rising(20, 0, 1)[10:]}})
}

// batches are ops that are done on chunks of series 1 and 2, and what is told.
func batches() []struct {
	what   string
	ops    []Op
	should api.Errno
} {
	add := func(series int, l ...int64) Op {
		return Op{Put: true, Series: series, Codec: series % 16, Samples: ats(l...)}
	}
	drop := func(series int, from, to int64) Op { return Op{Series: series, From: from, To: to} }
	type batch = struct {
		what   string
		ops    []Op
		should api.Errno
	}
	return []batch{
		{"nothing", nil, api.OK},
		{"nothing at all", []Op{}, api.OK},
		{"a chunk", []Op{add(3, 5)}, api.OK},
		{"puts and deletes the same", []Op{add(3, 5, 6), drop(3, 5, 6)}, api.OK},
		{"puts and deletes a part", []Op{add(3, 5, 6, 7), drop(3, 6, 6), add(3, 6)}, api.OK},
		{"deletes and puts the same", []Op{drop(1, 0, 99), add(1, 10, 20, 30)}, api.OK},
		{"deletes and puts in the gap", []Op{drop(1, 20, 20), add(1, 19, 21)}, api.OK},
		{"again and again", []Op{drop(1, 20, 20), add(1, 19, 21), drop(1, 20, 21), add(1, 20), drop(1, 19, 20), add(1, 20)}, api.OK},
		{"all goes", []Op{drop(1, least, most), drop(2, least, most)}, api.OK},
		{"many series", []Op{add(3, 1), add(0, 1), add(mostSeries, 1), drop(2, least, most), add(9, 0)}, api.OK},
		{"fields that the other kind has", []Op{{Put: true, Series: 3, Samples: ats(1), From: 5, To: 1}, {Series: 1, Codec: 99, Samples: ats(5, 1), From: 10, To: 10}}, api.OK},
		{"the first one is wrong", []Op{add(1, 15), add(3, 5)}, api.ErrOverlap},
		{"the last one is wrong", []Op{add(3, 5), drop(1, 10, 10), add(3, 5)}, api.ErrOverlap},
		{"one is none", []Op{add(3, 5), drop(3, 6, 9)}, api.ErrNone},
		{"it is gone", []Op{drop(1, 0, 99), drop(1, 0, 99)}, api.ErrNone},
		{"not there yet", []Op{drop(3, 5, 5), add(3, 5)}, api.ErrNone},
		{"no range", []Op{add(3, 5), drop(1, 9, 8)}, api.ErrEmpty},
		{"no series", []Op{add(3, 5), drop(-1, 9, 8)}, api.ErrArg},
		{"no series", []Op{add(3, 5), add(mostSeries+1, 5)}, api.ErrArg},
		{"no codec", []Op{add(3, 5), {Put: true, Series: 3, Codec: 16, Samples: ats(9)}}, api.ErrArg},
		{"no sample", []Op{add(3, 5), add(3)}, api.ErrEmpty},
		{"too many", []Op{add(3, 5), {Put: true, Series: 4, Samples: rising(201, 0, 1)}}, api.ErrLarge},
		{"falling", []Op{add(3, 5), add(4, 5, 4)}, api.ErrOrder},
		{"the first of two that are wrong", []Op{add(3, 5), drop(3, 6, 6), add(-1, 5)}, api.ErrNone},
		{"the first of two that are wrong", []Op{add(3, 5), add(-1, 5), drop(3, 6, 6)}, api.ErrArg},
		{"the first of two that are wrong", []Op{add(3, 5, 4), add(1, 10)}, api.ErrOrder},
		{"a nothing op", []Op{{}}, api.ErrNone},
	}
}

// P17.1: one behind the other, all or none.
func TestBatch(t *testing.T) {
	m := model{{1, 6, ats(10, 20, 30)}, {2, 9, ats(0)}, {1, 5, ats(31, 40)}}
	for _, c := range batches() {
		s, d, gen := filled(t, 64, m)
		now, e := m.batch(c.ops)
		want(t, c.what+", of the model", e, c.should)
		want(t, c.what, s.Batch(c.ops), c.should)
		if e == api.OK {
			gen++
		}
		wantStore(t, c.what, s, d, gen, now)
		wantOpened(t, c.what, d, gen, now)
		want(t, "Append behind "+c.what, s.Append(8, 0, ats(0)), api.OK)
		now, _ = now.put(8, 0, ats(0))
		wantOpened(t, "behind "+c.what, d, gen+1, now)
	}
}

// P17.1: a Batch of hundreds of ops.
func TestLongBatch(t *testing.T) {
	s, d := formatted(t, 512)
	var ops []Op
	for k := range int64(150) {
		ops = append(ops, Op{Put: true, Series: int(k % 3), Codec: int(k % 16), Samples: rising(1+int(k%20), 100*(k*37%150), 2)})
		if k%5 == 4 {
			ops = append(ops, Op{Series: int(k % 3), From: 100 * (k * 37 % 150), To: 100*(k*37%150) + 3})
		}
	}
	now, e := model(nil).batch(ops)
	want(t, "model", e, api.OK)
	want(t, "Batch", s.Batch(ops), api.OK)
	wantStore(t, "long", s, d, 2, now)
	want(t, "Batch, wrong at last", s.Batch(append(ops[:0:0], Op{Series: 0, From: least, To: most}, Op{Series: 1, From: least, To: most}, Op{Series: 99})), api.ErrNone)
	wantOpened(t, "long", d, 2, now)
	want(t, "Batch", s.Batch([]Op{{Series: 0, From: least, To: most}, {Series: 1, From: least, To: most}, {Series: 2, From: least, To: most}}), api.OK)
	wantOpened(t, "all gone", d, 3, nil)
	if st, _ := s.Stat(); st.Free != 509 {
		t.Error(st)
	}
}

// P17.1: chunks instead of all that a series has.
func TestReplace(t *testing.T) {
	m := model{{4, 1, rising(30, 0, 1)}, {5, 2, ats(0, 1)}, {5, 3, rising(200, 10, 1)}, {5, 4, ats(500)}, {6, 5, rising(30, 0, 1)}}
	for _, c := range []struct {
		what   string
		series int
		chunks [][]api.Sample
		codecs []int
	}{
		{"nothing by nothing", 9, nil, nil},
		{"nothing by nothing at all", 9, [][]api.Sample{}, []int{}},
		{"several by nothing", 5, nil, nil},
		{"nothing by one", 9, [][]api.Sample{ats(7)}, []int{15}},
		{"nothing by several", 9, [][]api.Sample{ats(7), rising(200, 8, 1), ats(least), ats(most)}, []int{15, 0, 3, 4}},
		{"one by several", 4, [][]api.Sample{rising(30, 0, 1)[:10], rising(30, 0, 1)[10:11], rising(30, 0, 1)[11:]}, []int{6, 7, 8}},
		{"several by one", 5, [][]api.Sample{rising(200, 400, 1)}, []int{0}},
		{"several by themselves", 5, [][]api.Sample{ats(0, 1), rising(200, 10, 1), ats(500)}, []int{2, 3, 4}},
		{"several by themselves, by other codecs", 5, [][]api.Sample{ats(0, 1), rising(200, 10, 1), ats(500)}, []int{0, 0, 0}},
		{"falling", 5, [][]api.Sample{ats(9), ats(6, 8), ats(3, 5), ats(2)}, []int{0, 1, 2, 3}},
		{"side by side", 0, [][]api.Sample{ats(1, 2), ats(5, 6), ats(3, 4)}, []int{9, 9, 9}},
		{"the greatest series", mostSeries, [][]api.Sample{ats(least, 0), ats(1, most)}, []int{9, 9}},
	} {
		s, d, gen := filled(t, 100, m)
		now, e := m.replace(c.series, c.chunks, c.codecs)
		want(t, c.what+", of the model", e, api.OK)
		want(t, c.what, s.Replace(c.series, c.chunks, c.codecs), api.OK)
		wantStore(t, c.what, s, d, gen+1, now)
		wantOpened(t, c.what, d, gen+1, now)
	}
}

// P17.1: what Replace refuses, in the chapter's order; nothing is changed.
func TestReplaceWrong(t *testing.T) {
	m := model{{4, 1, ats(0)}, {5, 2, ats(0, 1)}, {5, 3, rising(200, 10, 1)}}
	s, d, gen := filled(t, 64, m)
	still := unchanged(t, s, d, gen, m)
	type list = [][]api.Sample
	one, many, falls := ats(7), rising(201, 0, 1), ats(3, 2)
	for i, c := range []struct {
		series int
		chunks list
		codecs []int
		should api.Errno
	}{
		{-1, nil, nil, api.ErrArg},
		{mostSeries + 1, nil, nil, api.ErrArg},
		{math.MinInt, list{one}, []int{0}, api.ErrArg},
		{5, list{one}, nil, api.ErrArg},
		{5, nil, []int{0}, api.ErrArg},
		{5, list{one, ats(9)}, []int{0}, api.ErrArg},
		{5, list{one}, []int{0, 0}, api.ErrArg},
		{5, list{one}, []int{-1}, api.ErrArg},
		{5, list{one}, []int{16}, api.ErrArg},
		{5, list{one, ats(9)}, []int{0, math.MaxInt}, api.ErrArg},
		{5, list{one, ats(9)}, []int{math.MinInt, 0}, api.ErrArg},
		{5, list{nil}, []int{0, 0}, api.ErrArg},
		{5, list{nil}, []int{16}, api.ErrArg},
		{5, list{nil, many, falls}, []int{0, 0, 16}, api.ErrArg},
		{5, list{nil, many, falls}, []int{0, 0, -1}, api.ErrArg},
		{-1, list{nil}, []int{0}, api.ErrArg},
		{5, list{one, one}, []int{0, 16}, api.ErrArg},
		{5, list{nil}, []int{0}, api.ErrEmpty},
		{5, list{one, {}}, []int{0, 0}, api.ErrEmpty},
		{5, list{one, nil, many}, []int{0, 0, 0}, api.ErrEmpty},
		{5, list{one, many, nil}, []int{0, 0, 0}, api.ErrLarge},
		{5, list{many}, []int{0}, api.ErrLarge},
		{5, list{falls, many, nil}, []int{0, 0, 0}, api.ErrOrder},
		{5, list{one, one, falls}, []int{0, 0, 0}, api.ErrOrder},
		{5, list{ats(0, 9), ats(5), nil}, []int{0, 0, 0}, api.ErrEmpty},
		{5, list{ats(1, 1)}, []int{15}, api.ErrOrder},
		{5, list{one, one}, []int{0, 1}, api.ErrOverlap},
		{5, list{ats(0, 9), ats(9, 12)}, []int{0, 1}, api.ErrOverlap},
		{5, list{ats(9, 12), ats(0, 9)}, []int{0, 1}, api.ErrOverlap},
		{5, list{ats(0, 9), ats(4)}, []int{0, 1}, api.ErrOverlap},
		{5, list{ats(4), ats(0, 9)}, []int{0, 1}, api.ErrOverlap},
		{5, list{ats(0, 3), ats(100), ats(7, 12), ats(50), ats(2, 4)}, []int{0, 1, 2, 3, 4}, api.ErrOverlap},
		{9, list{ats(least, most), ats(0)}, []int{0, 1}, api.ErrOverlap},
	} {
		if _, e := m.replace(c.series, c.chunks, c.codecs); e != c.should {
			t.Errorf("%d: model: %d, not %d", i, e, c.should)
		}
		if e := s.Replace(c.series, c.chunks, c.codecs); e != c.should {
			t.Errorf("%d: %d, not %d", i, e, c.should)
		}
		still("Replace of what can't be")
	}
}

// P17.5: what is handed in isn't changed, its spare room neither, and not kept.
func TestHandedIn(t *testing.T) {
	s, d := formatted(t, 64)
	whole := rising(50, 0, 1)
	was := slices.Clone(whole)
	l := whole[:20]
	ops := make([]Op, 2, 9)
	ops[0], ops[1] = Op{Put: true, Series: 2, Samples: l}, Op{Series: 2, From: 3, To: 5}
	spareOps := slices.Clone(ops[:9])
	chunks := make([][]api.Sample, 2, 9)
	chunks[0], chunks[1] = whole[30:40:45], whole[:10]
	spareChunks := slices.Clone(chunks[:9])
	codecs := append(make([]int, 0, 9), 7, 5)
	want(t, "Append", s.Append(1, 7, l), api.OK)
	want(t, "Batch", s.Batch(ops), api.OK)
	want(t, "Replace", s.Replace(3, chunks, codecs), api.OK)
	if !slices.Equal(whole, was) || codecs[0] != 7 || codecs[1] != 5 || codecs[:9][2] != 0 {
		t.Error("changed", whole, codecs)
	}
	for i := range ops[:9] {
		if o, p := ops[:9][i], spareOps[i]; o.Put != p.Put || o.Series != p.Series || o.From != p.From || o.To != p.To || !same(o.Samples, p.Samples) {
			t.Error("changed", o)
		}
		if !same(chunks[:9][i], spareChunks[i]) {
			t.Error("changed", chunks[:9])
		}
	}
	clear(whole)
	clear(ops)
	clear(chunks)
	clear(codecs)
	m, _ := model(nil).batch([]Op{
		{Put: true, Series: 1, Codec: 7, Samples: was[:20]},
		{Put: true, Series: 2, Samples: was[:20]}, {Series: 2, From: 3, To: 5},
		{Put: true, Series: 3, Codec: 7, Samples: was[30:40]}, {Put: true, Series: 3, Codec: 5, Samples: was[:10]},
	})
	wantStore(t, "behind it", s, d, 4, m)
	wantOpened(t, "behind it", d, 4, m)
}

// same tells whether two lists are one.
func same(a, b []api.Sample) bool {
	return len(a) == len(b) && (len(a) == 0 || &a[0] == &b[0])
}

// P17.5: answers are new memory, and no two lists of one share any.
func TestAnswers(t *testing.T) {
	m := model{{1, 0, rising(20, 0, 1)}, {1, 6, rising(20, 100, 1)}, {2, 15, rising(20, 0, 1)}}
	s, d, gen := filled(t, 64, m)
	for range 2 {
		for _, c := range [][2]int64{{least, most}, {0, 0}, {5, 110}, {100, 119}} {
			l, _ := s.Query(1, c[0], c[1])
			clear(l[:cap(l)])
		}
		chunks, codecs, _ := s.Chunks(1)
		first := chunks[0][:cap(chunks[0])]
		clear(first)
		if !slices.Equal(chunks[1], m[1].l) {
			t.Error("shared")
		}
		clear(chunks[1][:cap(chunks[1])])
		clear(chunks[:cap(chunks)])
		clear(codecs[:cap(codecs)])
		all, _ := s.Series()
		clear(all[:cap(all)])
	}
	wantStore(t, "behind it", s, d, gen, m)
}
