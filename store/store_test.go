package store

import (
	"bytes"
	"math"
	"slices"
	"testing"

	"rick/api"
	"rick/chunk"
	"rick/disk"
)

// P17.1: the chapter's example.
func TestExample(t *testing.T) {
	s, _ := formatted(t, 64)
	want(t, "Append", s.Append(7, 6, []api.Sample{{At: 1, Val: 5}, {At: 3, Val: 5}}), api.OK)
	if l, e := s.Query(7, 2, 9); e != api.OK || !slices.Equal(l, []api.Sample{{At: 3, Val: 5}}) {
		t.Error(l, e)
	}
}

// P17.1: disks on which there is no Store, or can be none.
func TestOpenNone(t *testing.T) {
	dark := fresh(t, 16)
	Format(dark)
	dark.Fail(0)
	dark.Flush()
	for _, c := range []struct {
		what         string
		d            *disk.Disk
		format, open api.Errno
	}{
		{"nil", nil, api.ErrArg, api.ErrArg},
		{"never made", new(disk.Disk), api.ErrStop, api.ErrStop},
		{"dark", dark, api.ErrStop, api.ErrStop},
		{"never formatted", fresh(t, 16), api.OK, api.ErrForm},
		{"of ones", loaded(t, bytes.Repeat([]byte{255}, 16*256)), api.OK, api.ErrForm},
	} {
		if s, e := Open(c.d); s != nil || e != c.open {
			t.Errorf("Open, %s: %t, %d", c.what, s != nil, e)
		}
		s, e := Format(c.d)
		if (s == nil) != (c.format != api.OK) || e != c.format {
			t.Errorf("Format, %s: %t, %d", c.what, s != nil, e)
		}
		if e == api.OK {
			wantStore(t, c.what, s, c.d, 1, nil)
			wantOpened(t, c.what, c.d, 1, nil)
		}
	}
}

// P17.1: Format of a disk on which there is much: nothing of it is there.
func TestFormatAnew(t *testing.T) {
	for _, pages := range []int{8, 64, 512} {
		s, d := formatted(t, pages)
		for k := range int64(pages / 8) {
			want(t, "Append", s.Append(1, 0, ats(k)), api.OK)
		}
		s, e := Format(d)
		want(t, "Format", e, api.OK)
		wantStore(t, "formatted anew", s, d, 1, nil)
		wantOpened(t, "formatted anew", d, 1, nil)
		if st, _ := s.Stat(); st.Free != pages-3 {
			t.Error(pages, st)
		}
		want(t, "Append", s.Append(1, 0, ats(3)), api.OK)
		wantOpened(t, "formatted anew", d, 2, model{{1, 0, ats(3)}})
	}
}

// P17.1, P17.2: chunks of all codecs and sizes, in the least and the greatest series, over Open.
func TestAppend(t *testing.T) {
	for codec := range chunk.Codecs {
		s, d := formatted(t, 512)
		var m model
		for i, l := range [][]api.Sample{
			ats(0),
			rising(200, 1, 1),
			rising(2, 300, 50),
			rising(199, -1000, 3),
			ats(math.MinInt64, math.MinInt64+1, -2000),
			ats(2000, math.MaxInt64-1, math.MaxInt64),
		} {
			for _, series := range []int{7, 0, mostSeries} {
				var e api.Errno
				m, e = m.put(series, codec, l)
				want(t, "model", e, api.OK)
				want(t, "Append", s.Append(series, codec, l), api.OK)
			}
			wantStore(t, "appended", s, d, uint64(3*i+4), m)
			wantOpened(t, "appended", d, uint64(3*i+4), m)
			s = opened(t, d)
		}
	}
}

// P17.1: a chunk from the least time to the greatest one.
func TestWidest(t *testing.T) {
	for codec := range chunk.Codecs {
		m := model{{3, codec, ats(math.MinInt64, 0, math.MaxInt64)}}
		s, d, gen := filled(t, 16, m)
		wantStore(t, "widest", s, d, gen, m)
		for _, c := range []struct {
			from, to int64
			n        int
		}{
			{least, least, 1}, {most, most, 1}, {least, most, 3}, {least, 0, 2}, {0, most, 2},
			{least + 1, most - 1, 1}, {least + 1, -1, 0}, {1, most - 1, 0}, {most - 1, most, 1},
		} {
			l, e := s.Query(3, c.from, c.to)
			if e != api.OK || len(l) != c.n {
				t.Error(c, l, e)
			}
			wantQuery(t, "widest", s, m, 3, c.from, c.to)
		}
		for _, at := range []int64{least, least + 1, -1, 0, 1, most - 1, most} {
			want(t, "Append", s.Append(3, codec, ats(at)), api.ErrOverlap)
		}
		want(t, "Delete", s.Delete(3, least, least), api.OK)
		want(t, "Delete", s.Delete(3, most, most), api.OK)
		m = model{{3, codec, ats(0)}}
		wantStore(t, "both ends gone", s, d, gen+2, m)
		want(t, "Append", s.Append(3, codec, ats(least)), api.OK)
		want(t, "Append", s.Append(3, codec, ats(1, most)), api.OK)
		wantOpened(t, "and there again", d, gen+4, model{{3, codec, ats(least)}, {3, codec, ats(0)}, {3, codec, ats(1, most)}})
	}
}

// P17.1: what is no chunk is told, in the chapter's order, and changes nothing.
func TestAppendWrong(t *testing.T) {
	m := model{{0, 6, ats(10, 20)}, {mostSeries, 6, ats(10, 20)}}
	s, d, gen := filled(t, 64, m)
	still := unchanged(t, s, d, gen, m)
	falls, same, many := ats(20, 10), ats(10, 10), rising(201, 0, 1)
	manyFall := slices.Clone(many)
	manyFall[200].At = 0
	late := rising(200, 0, 1)
	late[199].At = late[198].At
	for i, c := range []struct {
		series, codec int
		l             []api.Sample
		should        api.Errno
	}{
		{-1, 0, ats(1), api.ErrArg},
		{mostSeries + 1, 0, ats(1), api.ErrArg},
		{math.MinInt, 0, ats(1), api.ErrArg},
		{math.MaxInt, 0, ats(1), api.ErrArg},
		{0, -1, ats(1), api.ErrArg},
		{0, 16, ats(1), api.ErrArg},
		{0, math.MinInt, ats(1), api.ErrArg},
		{0, math.MaxInt, ats(1), api.ErrArg},
		{-1, 0, nil, api.ErrArg},
		{-1, 16, many, api.ErrArg},
		{0, 16, nil, api.ErrArg},
		{0, -1, many, api.ErrArg},
		{0, 16, falls, api.ErrArg},
		{0, 16, ats(10), api.ErrArg},
		{0, 0, nil, api.ErrEmpty},
		{0, 15, []api.Sample{}, api.ErrEmpty},
		{0, 0, many, api.ErrLarge},
		{0, 0, manyFall, api.ErrLarge},
		{0, 0, falls, api.ErrOrder},
		{0, 0, same, api.ErrOrder},
		{0, 0, late, api.ErrOrder},
		{5, 0, falls, api.ErrOrder},
		{0, 0, ats(15, 15), api.ErrOrder},
		{0, 0, ats(10), api.ErrOverlap},
		{0, 6, ats(10, 20), api.ErrOverlap},
		{mostSeries, 15, ats(20), api.ErrOverlap},
	} {
		if e := s.Append(c.series, c.codec, c.l); e != c.should {
			t.Errorf("%d: Append(%d, %d, %d samples): %d, not %d", i, c.series, c.codec, len(c.l), e, c.should)
		}
		still("Append of what is no chunk")
	}
}

// P17.1: spans that meet, if in one time only, and spans side by side.
func TestOverlap(t *testing.T) {
	var m model
	for k := range int64(30) {
		m = append(m, lot{5, int(k % 16), ats(100*k, 100*k+7, 100*k+10)})
	}
	s, d, gen := filled(t, 200, m)
	still := unchanged(t, s, d, gen, m)
	for k := range int64(30) {
		at := 100 * k
		for _, l := range [][]api.Sample{
			ats(at), ats(at + 10), ats(at + 7), ats(at + 5), ats(at+1, at+6), ats(at+8, at+9),
			ats(at-1, at), ats(at+10, at+11), ats(at-1, at+11), ats(at, at+10), ats(at-89, at), ats(at+10, at+99),
			ats(at-500, at+500), ats(at, at+500), ats(at-500, at+10), ats(at, at+5), ats(at+5, at+10), ats(least, most),
		} {
			want(t, "Append", s.Append(5, 0, l), api.ErrOverlap)
		}
	}
	still("spans that meet")
	for k := range int64(30) {
		at := 100 * k
		beside := []lot{{5, 0, ats(at + 11)}, {5, 0, ats(at + 99)}, {5, 0, ats(at+12, at+98)}, {4, 0, ats(at, at+10)}, {6, 0, ats(at + 5)}}
		c := beside[k%5]
		want(t, "Append beside", s.Append(c.series, c.codec, c.l), api.OK)
		m = append(m, c)
	}
	wantStore(t, "spans side by side", s, d, gen+30, m)
	wantOpened(t, "spans side by side", d, gen+30, m)
}

// P17.1: ranges that begin or end inside a chunk, on its ends, between two chunks, over several.
func TestQuery(t *testing.T) {
	for codec := range chunk.Codecs {
		m := model{
			{5, codec, ats(10, 20, 30)},
			{5, codec, ats(31)},
			{5, codec, ats(50, 60)},
			{5, codec, rising(100, 100, 2)},
			{4, codec, rising(150, 0, 2)},
			{6, codec, rising(150, 0, 2)},
		}
		s, d, gen := filled(t, 100, m)
		still := unchanged(t, s, d, gen, m)
		edges := []int64{least, -1, 0, 9, 10, 11, 20, 29, 30, 31, 32, 45, 49, 50, 60, 61, 99, 100, 101, 200, 297, 298, 299, 300, most - 1, most}
		for i, from := range edges {
			for _, to := range edges[i:] {
				for series := 4; series <= 7; series++ {
					wantQuery(t, "Query", s, m, series, from, to)
				}
			}
			for _, to := range edges[:i] {
				for _, series := range []int{4, 5, 7} {
					if l, e := s.Query(series, from, to); len(l) != 0 || e != api.ErrEmpty {
						t.Error(series, from, to, l, e)
					}
				}
			}
		}
		still("Query")
	}
}

// P17.1: what is no series, or no range.
func TestQueryWrong(t *testing.T) {
	m := model{{0, 6, ats(0)}, {mostSeries, 6, ats(0)}}
	s, d, gen := filled(t, 16, m)
	still := unchanged(t, s, d, gen, m)
	for _, series := range []int{-1, mostSeries + 1, math.MinInt, math.MaxInt, -1 << 32} {
		for _, to := range []int64{least, -1, 0, most} {
			if l, e := s.Query(series, 0, to); len(l) != 0 || e != api.ErrArg {
				t.Error(series, to, l, e)
			}
			want(t, "Delete", s.Delete(series, 0, to), api.ErrArg)
		}
		if c, k, e := s.Chunks(series); len(c) != 0 || len(k) != 0 || e != api.ErrArg {
			t.Error(series, c, k, e)
		}
	}
	for _, series := range []int{0, 5, mostSeries} {
		for _, c := range [][2]int64{{1, 0}, {most, least}, {0, -1}, {most, most - 1}, {least + 1, least}} {
			if l, e := s.Query(series, c[0], c[1]); len(l) != 0 || e != api.ErrEmpty {
				t.Error(series, c, l, e)
			}
			want(t, "Delete", s.Delete(series, c[0], c[1]), api.ErrEmpty)
		}
	}
	still("wrong")
}

// P17.1: what there is of an empty Store, and of one behind each change.
func TestStat(t *testing.T) {
	s, d := formatted(t, 64)
	wantStore(t, "formatted", s, d, 1, nil)
	for i, c := range []struct {
		do     func() api.Errno
		should Stat
	}{
		{func() api.Errno { return s.Append(9, 0, rising(200, 0, 1)) }, Stat{1, 1, 200, 61 - 13 - 1, 2}},
		{func() api.Errno { return s.Append(9, 3, rising(7, 1000, 1)) }, Stat{1, 2, 207, 61 - 14 - 1, 3}},
		{func() api.Errno { return s.Append(2, 0, rising(15, 0, 1)) }, Stat{2, 3, 222, 61 - 15 - 1, 4}},
		{func() api.Errno { return s.Append(3, 0, rising(16, 0, 1)) }, Stat{3, 4, 238, 61 - 17 - 1, 5}},
		{func() api.Errno { return s.Delete(9, 50, 149) }, Stat{3, 5, 138, 61 - 12 - 1, 6}},
		{func() api.Errno { return s.Append(9, 0, nil) }, Stat{3, 5, 138, 61 - 12 - 1, 6}},
		{func() api.Errno { return s.Delete(9, 50, 149) }, Stat{3, 5, 138, 61 - 12 - 1, 6}},
		{func() api.Errno { return s.Batch(nil) }, Stat{3, 5, 138, 61 - 12 - 1, 7}},
		{func() api.Errno { return s.Delete(2, least, most) }, Stat{2, 4, 123, 61 - 11 - 1, 8}},
		{func() api.Errno { return s.Replace(9, nil, nil) }, Stat{1, 1, 16, 61 - 2 - 1, 9}},
		{func() api.Errno { return s.Replace(3, nil, nil) }, Stat{0, 0, 0, 61, 10}},
		{func() api.Errno { return s.Replace(3, nil, nil) }, Stat{0, 0, 0, 61, 11}},
	} {
		c.do()
		for _, s := range []*Store{s, opened(t, d)} {
			if got, e := s.Stat(); e != api.OK || got != c.should {
				t.Errorf("%d: %v, %d, not %v", i, got, e, c.should)
			}
		}
	}
}

// P17.1: a Store that isn't there, or was never made by a call.
func TestNil(t *testing.T) {
	for what, s := range map[string]*Store{"nil": nil, "never made": {}} {
		wantTold(t, what, s, api.ErrArg)
	}
	(*Store)(nil).Close()
	wantTold(t, "nil, closed", nil, api.ErrArg)
}

// P17.1: behind Close all calls tell ErrState, whatever becomes of the disk; what was done stays.
func TestClose(t *testing.T) {
	m := model{{7, 6, ats(0, 1)}, {8, 0, ats(5)}}
	s, d, gen := filled(t, 16, m)
	image := d.Image()
	s.Close()
	wantTold(t, "closed", s, api.ErrState)
	s.Close()
	wantTold(t, "closed twice", s, api.ErrState)
	other := opened(t, d)
	wantStore(t, "opened again", other, d, gen, m)
	d.Fail(0)
	d.Flush()
	wantTold(t, "closed, and dark", s, api.ErrState)
	d.Crash(nil)
	wantTold(t, "closed, and power again", s, api.ErrState)
	if d.Waiting() != 0 || !bytes.Equal(d.Image(), image) {
		t.Error("something was written")
	}
	wantOpened(t, "behind it", d, gen, m)
}
