package store

import (
	"bytes"
	"math/rand/v2"
	"slices"
	"strconv"
	"testing"

	"rick/api"
	"rick/bitmap"
	"rick/disk"
)

// life is a disk through many changes, and what should be there.
type life struct {
	t    *testing.T
	r    *rand.Rand
	d    *disk.Disk
	s    *Store
	gen  uint64
	has  model
	full int
}

// some is samples at random that may be a chunk's, mostly.
func (l *life) some() []api.Sample {
	n := 1 + l.r.IntN(5)
	switch l.r.IntN(12) {
	case 0:
		n = 200
	case 1:
		n = 201 * l.r.IntN(2)
	case 2, 3:
		n = 1 + l.r.IntN(100)
	}
	out := rising(n, int64(l.r.IntN(4000)), 1+int64(l.r.IntN(3)))
	if n > 1 && l.r.IntN(20) == 0 {
		out[1].At = out[0].At
	}
	for i := range out {
		if l.r.IntN(3) == 0 {
			out[i].Val = l.r.Uint64()
		}
	}
	return out
}

func (l *life) series() int {
	if l.r.IntN(40) == 0 {
		return []int{-1, mostSeries + 1, mostSeries}[l.r.IntN(3)]
	}
	return l.r.IntN(3)
}

func (l *life) codec() int {
	if l.r.IntN(40) == 0 {
		return []int{-1, 16}[l.r.IntN(2)]
	}
	return l.r.IntN(16)
}

// span is a range at random; mostly it begins and ends near a chunk's samples.
func (l *life) span(m model) (int64, int64) {
	from := int64(l.r.IntN(4500)) - 100
	if len(m) > 0 && l.r.IntN(4) > 0 {
		c := m[l.r.IntN(len(m))]
		from = c.l[l.r.IntN(len(c.l))].At - int64(l.r.IntN(2))
	}
	return from, from + int64(l.r.IntN([]int{2, 50, 2000}[l.r.IntN(3)])) - int64(l.r.IntN(30)/29)
}

func (l *life) op(m model) Op {
	from, to := l.span(m)
	o := Op{Put: l.r.IntN(5) < 3, Series: l.series(), From: from, To: to}
	if o.Put {
		o.Codec, o.Samples = l.codec(), l.some()
	}
	return o
}

// replacement is chunks that may come in place of a series': some of its own, others, or its own put together.
func (l *life) replacement(series int) ([][]api.Sample, []int) {
	var chunks [][]api.Sample
	var codecs []int
	for _, c := range l.has.of(series) {
		last := len(chunks) - 1
		if last >= 0 && len(chunks[last])+len(c.l) <= 200 && l.r.IntN(2) == 0 {
			chunks[last] = slices.Concat(chunks[last], c.l)
		} else if l.r.IntN(8) > 0 {
			chunks, codecs = append(chunks, c.l), append(codecs, l.codec())
		}
	}
	if l.r.IntN(4) == 0 {
		chunks, codecs = append(chunks, l.some()), append(codecs, l.codec())
	}
	if l.r.IntN(20) == 0 {
		codecs = append(codecs, 0)
	}
	return chunks, codecs
}

// change does a change at random, and tells which, what it told, what it should, what should be there then, and which room P17.4 asks for it (nothing, if it asks for none).
func (l *life) change() (what string, e, should api.Errno, next model, sizes []int) {
	switch l.r.IntN(10) {
	case 0:
		var ops []Op
		now := l.has
		for range l.r.IntN(5) {
			ops = append(ops, l.op(now))
			if l.r.IntN(4) > 0 {
				// Most batches have nothing wrong in them.
				after, e := now.batch(ops[len(ops)-1:])
				if e != api.OK {
					ops = ops[:len(ops)-1]
				}
				now = after
			}
		}
		next, should = l.has.batch(ops)
		return "Batch", l.s.Batch(ops), should, next, nil
	case 1:
		series := l.series()
		chunks, codecs := l.replacement(series)
		next, should = l.has.replace(series, chunks, codecs)
		sizes = []int{}
		for _, c := range next.of(series) {
			sizes = append(sizes, pagesOf(l.t, c.l, c.codec))
		}
		return "Replace", l.s.Replace(series, chunks, codecs), should, next, sizes
	case 2, 3, 4:
		series := l.series()
		from, to := l.span(l.has.of(series))
		next, should = l.has.remove(series, from, to)
		return "Delete", l.s.Delete(series, from, to), should, next, l.sizes(next)
	}
	series, codec, samples := l.series(), l.codec(), l.some()
	next, should = l.has.put(series, codec, samples)
	return "Append", l.s.Append(series, codec, samples), should, next, l.sizes(next)
}

// sizes is how many pages each chunk takes that is another one then.
func (l *life) sizes(next model) []int {
	all := []int{}
	for _, c := range next {
		if !slices.ContainsFunc(l.has, func(d lot) bool {
			return c.series == d.series && c.codec == d.codec && slices.Equal(c.l, d.l)
		}) {
			all = append(all, pagesOf(l.t, c.l, c.codec))
		}
	}
	return all
}

// step does a change; power may go in it.
func (l *life) step(power bool) {
	l.t.Helper()
	before := mapOf(l.t, l.d)
	if power {
		l.d.Fail(l.r.IntN(60))
	}
	what, e, should, next, sizes := l.change()
	switch {
	case e == api.ErrStop:
		l.crash(next)
	case e == api.ErrFull:
		l.full++
		// What else is wrong is told ahead of it, but in a Batch.
		if what != "Batch" {
			want(l.t, what, should, api.OK)
			l.wantNoRoom(what, before, sizes)
		}
		should = api.ErrFull
	case e == api.OK:
		l.gen, l.has = l.gen+1, next
	}
	l.d.Fail(-1)
	if e != api.ErrStop {
		want(l.t, what, e, should)
	}
	wantStore(l.t, "behind "+what, l.s, l.d, l.gen, l.has)
	from, to := l.span(l.has)
	if from <= to {
		wantQuery(l.t, "behind "+what, l.s, l.has, l.r.IntN(3), from, to)
	}
}

// wantNoRoom looks whether there wasn't room enough, as P17.4 says.
func (l *life) wantNoRoom(what string, before bitmap.Map, sizes []int) {
	l.t.Helper()
	more := 12
	if what == "Replace" {
		more *= max(1, len(sizes))
	}
	if roomFor(before, sizes, more) {
		l.t.Fatalf("%s: there is room for %v", what, sizes)
	}
}

func (l *life) crash(next model) {
	l.t.Helper()
	all := ways(l.r, l.d.Waiting())
	l.d.Crash(all[l.r.IntN(len(all))])
	want(l.t, "Batch behind ErrStop", l.s.Batch(nil), api.ErrStop)
	l.s = opened(l.t, l.d)
	st, e := l.s.Stat()
	want(l.t, "Stat", e, api.OK)
	if st.Gen == l.gen+1 {
		l.gen, l.has = l.gen+1, next
	}
}

// P17.1 to P17.4: through many changes, with and without power that goes, on disks with much room and with little.
func TestLives(t *testing.T) {
	for seed, pages := range []int{8, 12, 16, 24, 40, 64, 100, 200, 512} {
		for _, power := range []bool{false, true} {
			t.Run(strconv.Itoa(pages)+", "+strconv.FormatBool(power), func(t *testing.T) {
				t.Parallel()
				s, d := formatted(t, pages)
				l := &life{t: t, r: rand.New(rand.NewPCG(uint64(seed), 17)), d: d, s: s, gen: 1}
				for i := range 400 {
					l.step(power && l.r.IntN(3) == 0)
					if i%20 == 0 {
						wantOpened(t, "from time to time", d, l.gen, l.has)
						l.s = opened(t, d)
					}
				}
				if l.gen < 20 || pages < 60 && l.full == 0 {
					t.Error(pages, l.gen, l.full)
				}
			})
		}
	}
}

// P17.5: the same calls on two disks lay the same bytes, whatever becomes of what was handed in and answered, and whether a Store is opened anew.
func TestSameBytes(t *testing.T) {
	lay := func(spoil bool) []byte {
		s, d := formatted(t, 64)
		l := &life{t: t, r: rand.New(rand.NewPCG(5, 17)), d: d, s: s}
		for range 60 {
			series, codec, samples := l.series(), l.codec(), l.some()
			s.Append(series, codec, samples)
			ops := []Op{l.op(nil), l.op(nil)}
			s.Batch(ops)
			if !spoil {
				continue
			}
			clear(samples)
			clear(ops)
			all, _ := s.Query(1, least, most)
			clear(all)
			chunks, codecs, _ := s.Chunks(2)
			for _, c := range chunks {
				clear(c)
			}
			clear(codecs)
			s = opened(t, d)
		}
		return d.Image()
	}
	if !bytes.Equal(lay(false), lay(true)) {
		t.Error("other bytes")
	}
}
