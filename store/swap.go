package store

import (
	"cmp"
	"slices"

	"rick/api"
	"rick/chunk"
	"rick/node"
	"rick/txn"
)

// piece is a chunk as bytes, and the entry that tells of it.
type piece struct {
	entry node.Entry
	bytes []byte
}

// swap is chunks that go, and chunks that come in their place.
type swap struct {
	drops []node.Key
	puts  []piece
}

// encoded is a chunk as a piece.
func encoded(series, codec int, l []api.Sample) (piece, api.Errno) {
	if !isSeries(series) {
		return piece{}, api.ErrArg
	}
	b, e := chunk.Encode(l, codec)
	if e != api.OK {
		return piece{}, e
	}
	return piece{node.Entry{
		Key:   node.Key{Series: series, Start: l[0].At},
		End:   l[len(l)-1].At,
		Count: len(l),
		Codec: codec,
	}, b}, api.OK
}

// in is a piece as one of another series.
func (p piece) in(series int) piece {
	p.entry.Key.Series = series
	return p
}

// put adds a piece as a part of a Txn.
func (p piece) put(x *txn.Txn) api.Errno {
	e := x.Put(p.entry, p.bytes)
	if e == api.ErrKnown {
		// Chunks that begin at one time meet.
		return api.ErrOverlap
	}
	return e
}

// do does a swap as a part of a Txn.
func (w swap) do(x *txn.Txn) api.Errno {
	for _, k := range w.drops {
		if e := x.Drop(k); e != api.OK {
			return e
		}
	}
	for _, p := range w.puts {
		if e := p.put(x); e != api.OK {
			return e
		}
	}
	return api.OK
}

// doTight does a swap where the tree's nodes would part pages that are free side by side, and that a piece needs: the pieces hold such pages, the longest one first, in a series that has no chunk, till the others are gone.
func (w swap) doTight(x *txn.Txn) api.Errno {
	l, e := x.Entries()
	if e != api.OK {
		return e
	}
	spare := unused(l)
	puts := slices.SortedStableFunc(slices.Values(w.puts), func(p, q piece) int {
		return cmp.Compare(len(q.bytes), len(p.bytes))
	})
	for _, p := range puts {
		if e := p.in(spare).put(x); e != api.OK {
			return e
		}
	}
	if e := (swap{drops: w.drops}).do(x); e != api.OK {
		return e
	}
	for _, p := range puts {
		held := p.in(spare).entry.Key
		if e := (swap{[]node.Key{held}, []piece{p}}).do(x); e != api.OK {
			return e
		}
	}
	return api.OK
}

// unused is the least series of which there is no entry.
func unused(l []node.Entry) int {
	least := 0
	for _, series := range seriesOf(l) {
		if series == least {
			least++
		}
	}
	return least
}

// thinning is the swap by which the samples of a range go: of a chunk of which some stay, those ahead and those behind come in its place.
func thinning(x *txn.Txn, series int, from, to int64) (swap, api.Errno) {
	if e := wrongRange(series, from, to); e != api.OK {
		return swap{}, e
	}
	l, e := x.Entries()
	if e != api.OK {
		return swap{}, e
	}
	var w swap
	for _, old := range l {
		if !meets(old, series, from, to) {
			continue
		}
		rest, e := without(x, old, from, to)
		if e != api.OK {
			return swap{}, e
		}
		w.drops = append(w.drops, old.Key)
		w.puts = append(w.puts, rest...)
	}
	if len(w.drops) == 0 {
		return swap{}, api.ErrNone
	}
	return w, api.OK
}

// without is what stays of a chunk when the samples of a range go.
func without(x *txn.Txn, old node.Entry, from, to int64) ([]piece, api.Errno) {
	// A chunk of which nothing stays needn't be read.
	if from <= old.Key.Start && old.End <= to {
		return nil, api.OK
	}
	l, e := read(x.Bytes, old)
	if e != api.OK {
		return nil, e
	}
	ahead, within, behind := parts(l, from, to)
	if len(within) == 0 {
		// A range between two samples of a chunk meets no other one.
		return nil, api.ErrNone
	}
	var rest []piece
	for _, stays := range [][]api.Sample{ahead, behind} {
		if len(stays) == 0 {
			continue
		}
		p, e := encoded(old.Key.Series, old.Codec, stays)
		if e != api.OK {
			return nil, e
		}
		rest = append(rest, p)
	}
	return rest, api.OK
}

// replacing is the swap by which chunks come in place of all that a series has.
func replacing(x *txn.Txn, series int, chunks [][]api.Sample, codecs []int) (swap, api.Errno) {
	puts, e := pieces(series, chunks, codecs)
	if e != api.OK {
		return swap{}, e
	}
	l, e := x.Entries()
	if e != api.OK {
		return swap{}, e
	}
	w := swap{puts: puts}
	for _, old := range l {
		if old.Key.Series == series {
			w.drops = append(w.drops, old.Key)
		}
	}
	return w, api.OK
}

// pieces is chunks that may be all that a series has.
func pieces(series int, chunks [][]api.Sample, codecs []int) ([]piece, api.Errno) {
	if !isSeries(series) || len(chunks) != len(codecs) || slices.ContainsFunc(codecs, isNone) {
		return nil, api.ErrArg
	}
	var l []piece
	for i, c := range chunks {
		p, e := encoded(series, codecs[i], c)
		if e != api.OK {
			return nil, e
		}
		l = append(l, p)
	}
	if overlap(l) {
		return nil, api.ErrOverlap
	}
	return l, api.OK
}

// isNone tells whether a codec is none.
func isNone(codec int) bool { return codec < 0 || codec >= chunk.Codecs }

// overlap tells whether the spans of two pieces of a series meet.
func overlap(l []piece) bool {
	rising := slices.SortedFunc(slices.Values(l), func(p, q piece) int {
		return cmp.Compare(p.entry.Key.Start, q.entry.Key.Start)
	})
	for i := 1; i < len(rising); i++ {
		if rising[i].entry.Key.Start <= rising[i-1].entry.End {
			return true
		}
	}
	return false
}
