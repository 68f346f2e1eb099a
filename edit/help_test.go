package edit

import (
	"maps"
	"math"
	"math/rand/v2"
	"slices"
	"testing"

	"rick/api"
	"rick/chunk"
	"rick/disk"
	"rick/store"
)

const (
	least, most = math.MinInt64, math.MaxInt64
	mostSeries  = 1<<32 - 1
)

// lot is a chunk.
type lot struct {
	codec int
	l     []api.Sample
}

// model is the chunks of each series, rising.
type model map[int][]lot

// with is a model in which a series has other chunks.
func (m model) with(series int, l ...lot) model {
	now := maps.Clone(m)
	now[series] = l
	return now
}

// samples is n samples of one of four tastes, the first one at a time; each taste has another best codec.
func samples(taste, n int, at int64) []api.Sample {
	r := rand.New(rand.NewPCG(uint64(at), uint64(n)))
	l := make([]api.Sample, n)
	for i := range l {
		l[i].At = at
		switch taste % 4 {
		case 0:
			l[i].Val = 7
			at += 5
		case 1:
			l[i].Val = r.Uint64()
			at += 1 + r.Int64N(9)
		case 2:
			l[i].Val = 1000 + r.Uint64N(16)
			at += 90 + r.Int64N(20)
		case 3:
			l[i].Val = math.Float64bits(1 + float64(i)/2)
			at += 1 + int64(r.Uint32()>>r.IntN(32))
		}
	}
	return l
}

// row is chunks of so many samples each, one behind the other, by codecs and of tastes of all kinds.
func row(counts ...int) []lot {
	var all []lot
	at := int64(-50)
	for i, n := range counts {
		l := samples(i, n, at)
		all = append(all, lot{(5*i + n) % chunk.Codecs, l})
		at = l[n-1].At + 1 + int64(i%3)
	}
	return all
}

// joined is chunks' samples, one behind the other.
func joined(l []lot) []api.Sample {
	var all []api.Sample
	for _, c := range l {
		all = append(all, c.l...)
	}
	return all
}

func fresh(t *testing.T, pages int) *disk.Disk {
	t.Helper()
	d, e := disk.New(pages)
	if e != api.OK {
		t.Fatal(e)
	}
	return d
}

func loaded(t *testing.T, image []byte) *disk.Disk {
	t.Helper()
	d, e := disk.Load(image)
	if e != api.OK {
		t.Fatal(e)
	}
	return d
}

func opened(t *testing.T, d *disk.Disk) *store.Store {
	t.Helper()
	s, e := store.Open(d)
	if e != api.OK {
		t.Fatal(e)
	}
	return s
}

// filled is a Store with a model's chunks, laid in one change: it is of generation 2.
func filled(t *testing.T, pages int, m model) (*store.Store, *disk.Disk) {
	t.Helper()
	d := fresh(t, pages)
	if !fills(t, d, m) {
		t.Fatal("no room")
	}
	return opened(t, d), d
}

// fills lays a model's chunks on a disk, in one change, and tells whether there is room.
func fills(t *testing.T, d *disk.Disk, m model) bool {
	t.Helper()
	s, e := store.Format(d)
	if e != api.OK {
		t.Fatal(e)
	}
	var ops []store.Op
	for _, series := range slices.Sorted(maps.Keys(m)) {
		for _, c := range m[series] {
			ops = append(ops, store.Op{Put: true, Series: series, Codec: c.codec, Samples: c.l})
		}
	}
	if e = s.Batch(ops); e != api.OK && e != api.ErrFull {
		t.Fatal(e)
	}
	return e == api.OK
}

func want(t *testing.T, what string, got, should api.Errno) {
	t.Helper()
	if got != should {
		t.Errorf("%s: %d, not %d", what, got, should)
	}
}

// wantStore looks whether a Store is of a generation, and has just what a model has.
func wantStore(t *testing.T, what string, s *store.Store, gen uint64, m model) {
	t.Helper()
	count, size := 0, 0
	for series, all := range m {
		count += len(all)
		size += len(joined(all))
		chunks, codecs, e := s.Chunks(series)
		if e != api.OK || len(chunks) != len(all) {
			t.Fatalf("%s: Chunks(%d): %d of them, %d, not %d", what, series, len(chunks), e, len(all))
		}
		for i, c := range all {
			if codecs[i] != c.codec || !slices.Equal(chunks[i], c.l) {
				t.Fatalf("%s: Chunks(%d): %d is %v by %d, not %v", what, series, i, chunks[i], codecs[i], c)
			}
		}
		if l, e := s.Query(series, least, most); e != api.OK || !slices.Equal(l, joined(all)) {
			t.Fatalf("%s: Query(%d): %v, %d", what, series, l, e)
		}
	}
	st, e := s.Stat()
	if e != api.OK || st.Series != len(m) || st.Chunks != count || st.Samples != size || st.Gen != gen {
		t.Fatalf("%s: Stat: %v, %d, not %d series, %d chunks, %d samples, generation %d", what, st, e, len(m), count, size, gen)
	}
}

// wantOpened looks whether Open of a disk as it is there to stay finds what a model has.
func wantOpened(t *testing.T, what string, d *disk.Disk, gen uint64, m model) {
	t.Helper()
	wantStore(t, what+", opened", opened(t, loaded(t, d.Image())), gen, m)
}

// wantAnswers looks whether each Query from or to a time near a chunk's end or within it tells what a series' samples tell.
func wantAnswers(t *testing.T, what string, s *store.Store, series int, l []lot) {
	t.Helper()
	all := joined(l)
	edges := []int64{least, most}
	for i, c := range l {
		// Of many chunks a few are enough.
		if i%(1+len(l)/6) != 0 {
			continue
		}
		first, middle, last := c.l[0].At, c.l[len(c.l)/2].At, c.l[len(c.l)-1].At
		edges = append(edges, first-1, first, middle, last, last+1)
	}
	for _, from := range edges {
		for _, to := range edges {
			if from > to {
				continue
			}
			var should []api.Sample
			for _, x := range all {
				if x.At >= from && x.At <= to {
					should = append(should, x)
				}
			}
			if got, e := s.Query(series, from, to); e != api.OK || !slices.Equal(got, should) {
				t.Fatalf("%s: Query(%d, %d, %d): %v, %d, not %v", what, series, from, to, got, e, should)
			}
		}
	}
}

// recompressed is what Recompress should lay.
func recompressed(t *testing.T, l []lot, codec int) []lot {
	t.Helper()
	var all []lot
	for _, c := range l {
		its := codec
		if codec == Best {
			var e api.Errno
			its, e = chunk.Best(c.l)
			want(t, "Best", e, api.OK)
		}
		all = append(all, lot{its, c.l})
	}
	return all
}

// compacted is what Compact should lay.
func compacted(t *testing.T, l []lot, limit, codec int) []lot {
	t.Helper()
	var all []lot
	for len(l) > 0 {
		n := 1
		for n < len(l) && len(joined(l[:n+1])) <= limit {
			n++
		}
		all = append(all, lot{0, joined(l[:n])})
		l = l[n:]
	}
	return recompressed(t, all, codec)
}

// unchanged is a look, made later, whether a Store and its disk are as they are now.
func unchanged(t *testing.T, s *store.Store, d *disk.Disk, gen uint64, m model) func(what string) {
	t.Helper()
	image := d.Image()
	return func(what string) {
		t.Helper()
		if !slices.Equal(d.Image(), image) {
			t.Fatalf("%s: something was changed", what)
		}
		wantStore(t, what, s, gen, m)
	}
}

// ways is what may be kept of so many writes that wait: nothing, all, parts, the last one in part; and the first ones, or the last ones, or some.
func ways(r *rand.Rand, waiting int) [][]disk.Fate {
	every := make([]disk.Fate, waiting)
	for i := range every {
		every[i] = disk.Fate{Keep: true, Atoms: 255}
	}
	some, torn, last := slices.Clone(every), slices.Clone(every), slices.Clone(every)
	from, kind := r.IntN(waiting+1), r.IntN(3)
	for i := range every {
		some[i].Keep = kind == 0 && i < from || kind == 1 && i >= from || kind == 2 && r.IntN(2) == 0
		torn[i] = disk.Fate{Keep: r.IntN(4) > 0, Atoms: uint8(r.Uint32())}
	}
	if waiting > 0 {
		last[waiting-1].Atoms = uint8(r.Uint32())
	}
	return [][]disk.Fate{nil, every, torn, last, some}
}
