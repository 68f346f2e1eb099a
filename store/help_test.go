package store

import (
	"cmp"
	"math"
	"math/rand/v2"
	"slices"
	"testing"

	"rick/api"
	"rick/bitmap"
	"rick/chunk"
	"rick/crc"
	"rick/disk"
	"rick/node"
	"rick/page"
	"rick/super"
	"rick/tree"
	"rick/txn"
)

const (
	least, most = math.MinInt64, math.MaxInt64
	mostSeries  = 1<<32 - 1
)

// lot is a chunk of a model.
type lot struct {
	series, codec int
	l             []api.Sample
}

func (c lot) first() int64 { return c.l[0].At }
func (c lot) last() int64  { return c.l[len(c.l)-1].At }

// model is a store as a plain list of chunks. What changes one answers another one.
type model []lot

func (m model) put(series, codec int, l []api.Sample) (model, api.Errno) {
	switch {
	case series < 0 || series > mostSeries || codec < 0 || codec > 15:
		return m, api.ErrArg
	case len(l) == 0:
		return m, api.ErrEmpty
	case len(l) > 200:
		return m, api.ErrLarge
	}
	for i := range l {
		if i > 0 && l[i].At <= l[i-1].At {
			return m, api.ErrOrder
		}
	}
	c := lot{series, codec, slices.Clone(l)}
	for _, other := range m {
		if other.series == series && other.first() <= c.last() && c.first() <= other.last() {
			return m, api.ErrOverlap
		}
	}
	return append(slices.Clone(m), c), api.OK
}

func (m model) remove(series int, from, to int64) (model, api.Errno) {
	switch {
	case series < 0 || series > mostSeries:
		return m, api.ErrArg
	case from > to:
		return m, api.ErrEmpty
	}
	var rest model
	e := api.ErrNone
	for _, c := range m {
		var ahead, behind []api.Sample
		for _, s := range c.l {
			switch {
			case c.series != series || s.At < from:
				ahead = append(ahead, s)
			case s.At > to:
				behind = append(behind, s)
			}
		}
		if len(ahead)+len(behind) == len(c.l) {
			rest = append(rest, c)
			continue
		}
		e = api.OK
		for _, l := range [][]api.Sample{ahead, behind} {
			if len(l) > 0 {
				rest = append(rest, lot{series, c.codec, l})
			}
		}
	}
	if e != api.OK {
		return m, e
	}
	return rest, e
}

func (m model) batch(ops []Op) (model, api.Errno) {
	now, e := m, api.OK
	for _, o := range ops {
		if o.Put {
			now, e = now.put(o.Series, o.Codec, o.Samples)
		} else {
			now, e = now.remove(o.Series, o.From, o.To)
		}
		if e != api.OK {
			return m, e
		}
	}
	return now, api.OK
}

func (m model) replace(series int, chunks [][]api.Sample, codecs []int) (model, api.Errno) {
	if series < 0 || series > mostSeries || len(chunks) != len(codecs) {
		return m, api.ErrArg
	}
	for _, codec := range codecs {
		if codec < 0 || codec > 15 {
			return m, api.ErrArg
		}
	}
	// What is wrong with one alone is told ahead of spans that meet.
	for _, l := range chunks {
		if _, e := (model)(nil).put(series, 0, l); e != api.OK {
			return m, e
		}
	}
	now, _ := m.remove(series, least, most)
	for i, l := range chunks {
		var e api.Errno
		if now, e = now.put(series, codecs[i], l); e != api.OK {
			return m, e
		}
	}
	return now, api.OK
}

// of is a series' chunks, rising.
func (m model) of(series int) []lot {
	var all []lot
	for _, c := range m {
		if c.series == series {
			all = append(all, c)
		}
	}
	slices.SortFunc(all, func(c, d lot) int { return cmp.Compare(c.first(), d.first()) })
	return all
}

func (m model) query(series int, from, to int64) []api.Sample {
	var all []api.Sample
	for _, c := range m.of(series) {
		for _, s := range c.l {
			if s.At >= from && s.At <= to {
				all = append(all, s)
			}
		}
	}
	return all
}

func (m model) series() []int {
	var all []int
	for _, c := range m {
		all = append(all, c.series)
	}
	slices.Sort(all)
	return slices.Compact(all)
}

func (m model) samples() int {
	n := 0
	for _, c := range m {
		n += len(c.l)
	}
	return n
}

// rising is n samples, the first one at a time, each other one a step behind.
func rising(n int, at, step int64) []api.Sample {
	l := make([]api.Sample, n)
	for i := range l {
		l[i] = api.Sample{At: at + int64(i)*step, Val: uint64(at)*31 + uint64(i*i)}
	}
	return l
}

// ats is samples at these times.
func ats(all ...int64) []api.Sample {
	var l []api.Sample
	for _, at := range all {
		l = append(l, api.Sample{At: at, Val: uint64(at) * 977})
	}
	return l
}

// pagesOf is how many pages a chunk takes.
func pagesOf(t *testing.T, l []api.Sample, codec int) int {
	t.Helper()
	b, e := chunk.Encode(l, codec)
	if e != api.OK {
		t.Fatal(e)
	}
	return (len(b) + 255) / 256
}

func fresh(t *testing.T, pages int) *disk.Disk {
	t.Helper()
	d, e := disk.New(pages)
	if e != api.OK {
		t.Fatal(e)
	}
	return d
}

func loaded(t *testing.T, image []byte) *disk.Disk {
	t.Helper()
	d, e := disk.Load(image)
	if e != api.OK {
		t.Fatal(e)
	}
	return d
}

func formatted(t *testing.T, pages int) (*Store, *disk.Disk) {
	t.Helper()
	d := fresh(t, pages)
	s, e := Format(d)
	if e != api.OK {
		t.Fatal(e)
	}
	return s, d
}

func opened(t *testing.T, d *disk.Disk) *Store {
	t.Helper()
	s, e := Open(d)
	if e != api.OK {
		t.Fatal(e)
	}
	return s
}

// filled is a Store with a model's chunks, appended one by one, and its generation.
func filled(t *testing.T, pages int, m model) (*Store, *disk.Disk, uint64) {
	t.Helper()
	s, d := formatted(t, pages)
	for _, c := range m {
		if e := s.Append(c.series, c.codec, c.l); e != api.OK {
			t.Fatalf("Append of %v: %d", c, e)
		}
	}
	return s, d, uint64(1 + len(m))
}

func want(t *testing.T, what string, got, should api.Errno) {
	t.Helper()
	if got != should {
		t.Errorf("%s: %d, not %d", what, got, should)
	}
}

func wantQuery(t *testing.T, what string, s *Store, m model, series int, from, to int64) {
	t.Helper()
	l, e := s.Query(series, from, to)
	if should := m.query(series, from, to); e != api.OK || !slices.Equal(l, should) {
		t.Fatalf("%s: Query(%d, %d, %d): %v, %d, not %v", what, series, from, to, l, e, should)
	}
}

func wantChunks(t *testing.T, what string, s *Store, m model, series int) {
	t.Helper()
	chunks, codecs, e := s.Chunks(series)
	all := m.of(series)
	if e != api.OK || len(chunks) != len(all) || len(codecs) != len(all) {
		t.Fatalf("%s: Chunks(%d): %v, %v, %d, not %v", what, series, chunks, codecs, e, all)
	}
	for i, c := range all {
		if codecs[i] != c.codec || !slices.Equal(chunks[i], c.l) {
			t.Fatalf("%s: Chunks(%d): %v by %d, not %v", what, series, chunks[i], codecs[i], c)
		}
	}
}

// wantStore looks whether a Store is of a generation, has just what a model has, and just the pages in use that it needs.
func wantStore(t *testing.T, what string, s *Store, d *disk.Disk, gen uint64, m model) {
	t.Helper()
	all := m.series()
	if got, e := s.Series(); e != api.OK || !slices.Equal(got, all) {
		t.Fatalf("%s: Series: %v, %d, not %v", what, got, e, all)
	}
	should := Stat{Series: len(all), Chunks: len(m), Samples: m.samples(), Free: freeOf(t, d, m), Gen: gen}
	if got, e := s.Stat(); e != api.OK || got != should {
		t.Fatalf("%s: Stat: %v, %d, not %v", what, got, e, should)
	}
	for _, series := range append(all, 0, 1, 77, mostSeries) {
		wantChunks(t, what, s, m, series)
		wantQuery(t, what, s, m, series, least, most)
	}
}

// wantOpened looks whether Open of a disk, and of the same one as it would be without what waits, finds what a model has.
func wantOpened(t *testing.T, what string, d *disk.Disk, gen uint64, m model) {
	t.Helper()
	cold := loaded(t, d.Image())
	wantStore(t, what+", opened from its image", opened(t, cold), cold, gen, m)
	wantStore(t, what+", opened", opened(t, d), d, gen, m)
}

// mapOf is the bitmap of a disk's newest generation.
func mapOf(t *testing.T, d *disk.Disk) bitmap.Map {
	t.Helper()
	s, e := super.Newest(crc.New(), d)
	if e != api.OK {
		t.Fatal(e)
	}
	p, e := page.Read(crc.New(), d, s.Bitmap, page.Bitmap)
	if e != api.OK {
		t.Fatal(e)
	}
	m, e := bitmap.Get(p.Body)
	if e != api.OK {
		t.Fatal(e)
	}
	return m
}

// nodesOf is where the nodes of a disk's tree stand.
func nodesOf(t *testing.T, d *disk.Disk) []int {
	t.Helper()
	s, e := super.Newest(crc.New(), d)
	if e != api.OK {
		t.Fatal(e)
	}
	m := mapOf(t, d)
	v, e := tree.Open(crc.New(), d, s.Gen, m, m)
	if e != api.OK {
		t.Fatal(e)
	}
	l, e := v.Pages(s.Root)
	if e != api.OK {
		t.Fatal(e)
	}
	return l
}

// entriesOf is what a disk's tree tells.
func entriesOf(t *testing.T, d *disk.Disk) []node.Entry {
	t.Helper()
	b, e := txn.Mount(d)
	if e != api.OK {
		t.Fatal(e)
	}
	var l []node.Entry
	for x, e := range b.Entries() {
		if e != api.OK {
			t.Fatal(e)
		}
		l = append(l, x)
	}
	return l
}

// freeOf is how many pages are free beside superblocks, bitmap, tree, and a model's chunks; just those are in use.
func freeOf(t *testing.T, d *disk.Disk, m model) int {
	t.Helper()
	free := d.Pages() - 3 - len(nodesOf(t, d))
	for _, c := range m {
		free -= pagesOf(t, c.l, c.codec)
	}
	if got := bitmap.Free(mapOf(t, d)); got != free {
		t.Fatalf("in the bitmap %d are free, not %d", got, free)
	}
	return free
}

// roomFor tells whether a map has room enough, as P17.4 says: for each of some chunks so many pages side by side, and so many more.
func roomFor(m bitmap.Map, sizes []int, more int) bool {
	sizes = slices.Clone(sizes)
	slices.SortFunc(sizes, func(a, b int) int { return b - a })
	for _, n := range sizes {
		var e api.Errno
		if m, _, e = bitmap.Take(m, m, n); e != api.OK {
			return false
		}
	}
	return bitmap.Free(m) >= more
}

// ways is what may be kept of so many writes that wait: nothing, all, the first ones, the last ones, all but one, and parts.
func ways(r *rand.Rand, waiting int) [][]disk.Fate {
	every := make([]disk.Fate, waiting)
	for i := range every {
		every[i] = disk.Fate{Keep: true, Atoms: 255}
	}
	some, torn, later := slices.Clone(every), slices.Clone(every), slices.Clone(every)
	for i := range every {
		some[i].Keep = r.IntN(2) == 0
		torn[i] = disk.Fate{Keep: r.IntN(4) > 0, Atoms: uint8(r.Uint32())}
	}
	from := r.IntN(waiting + 1)
	clear(later[:from])
	all := [][]disk.Fate{nil, every, every[:from], later, some, torn}
	if waiting > 0 {
		but, last := slices.Clone(every), slices.Clone(every)
		but[r.IntN(waiting)].Keep = false
		last[waiting-1].Atoms = uint8(r.Uint32())
		all = append(all, but, last)
	}
	return all
}

// wantTold looks whether each call of a Store tells an error, and nothing else, whatever it is given.
func wantTold(t *testing.T, what string, s *Store, should api.Errno) {
	t.Helper()
	for _, series := range []int{-1, 7, mostSeries + 1} {
		for _, to := range []int64{-5, 5} {
			want(t, what+": Append", s.Append(series, int(to), ats(1)), should)
			want(t, what+": Append of nothing", s.Append(series, int(to), nil), should)
			want(t, what+": Delete", s.Delete(series, 0, to), should)
			if l, e := s.Query(series, 0, to); len(l) != 0 || e != should {
				t.Errorf("%s: Query: %v, %d, not %d", what, l, e, should)
			}
			want(t, what+": Batch", s.Batch([]Op{{Series: series, To: to}, {Put: true, Series: series, Samples: ats(1)}}), should)
		}
		if c, k, e := s.Chunks(series); len(c) != 0 || len(k) != 0 || e != should {
			t.Errorf("%s: Chunks: %v, %v, %d, not %d", what, c, k, e, should)
		}
		want(t, what+": Replace", s.Replace(series, [][]api.Sample{ats(1), ats(2)}, []int{0, 6}), should)
		want(t, what+": Replace, wrong", s.Replace(series, [][]api.Sample{nil, ats(2)}, []int{0, 99}), should)
		want(t, what+": Replace of nothing", s.Replace(series, nil, nil), should)
	}
	want(t, what+": Batch of nothing", s.Batch(nil), should)
	if l, e := s.Series(); len(l) != 0 || e != should {
		t.Errorf("%s: Series: %v, %d, not %d", what, l, e, should)
	}
	if got, e := s.Stat(); got != (Stat{}) || e != should {
		t.Errorf("%s: Stat: %v, %d, not %d", what, got, e, should)
	}
}

// unchanged is a look, made later, whether a Store and its disk are as they are now.
func unchanged(t *testing.T, s *Store, d *disk.Disk, gen uint64, m model) func(what string) {
	t.Helper()
	image, waits := d.Image(), d.Waiting()
	return func(what string) {
		t.Helper()
		if d.Waiting() != waits || !slices.Equal(d.Image(), image) {
			t.Fatalf("%s: something was written", what)
		}
		wantStore(t, what, s, d, gen, m)
	}
}
