package store

import (
	"rick/api"
	"rick/txn"
)

// Append adds a chunk to a series.
func (s *Store) Append(series, codec int, l []api.Sample) api.Errno {
	return s.Batch([]Op{{Put: true, Series: series, Codec: codec, Samples: l}})
}

// Delete lets the samples of a range go.
func (s *Store) Delete(series int, from, to int64) api.Errno {
	return s.swap(func(x *txn.Txn) (swap, api.Errno) { return thinning(x, series, from, to) })
}

// Replace lets chunks be there instead of all that a series has.
func (s *Store) Replace(series int, chunks [][]api.Sample, codecs []int) api.Errno {
	return s.swap(func(x *txn.Txn) (swap, api.Errno) { return replacing(x, series, chunks, codecs) })
}

// Batch does many changes, or none of them.
func (s *Store) Batch(ops []Op) api.Errno {
	return s.change(func(x *txn.Txn) api.Errno {
		for _, o := range ops {
			if e := o.do(x); e != api.OK {
				return e
			}
		}
		return api.OK
	})
}

// do does a change as a part of a Txn.
func (o Op) do(x *txn.Txn) api.Errno {
	if o.Put {
		p, e := encoded(o.Series, o.Codec, o.Samples)
		if e != api.OK {
			return e
		}
		return p.put(x)
	}
	w, e := thinning(x, o.Series, o.From, o.To)
	if e != api.OK {
		return e
	}
	return w.do(x)
}

// swap does the swap that is planned for the chunks that are there.
func (s *Store) swap(plan func(x *txn.Txn) (swap, api.Errno)) api.Errno {
	by := func(do func(w swap, x *txn.Txn) api.Errno) api.Errno {
		return s.change(func(x *txn.Txn) api.Errno {
			w, e := plan(x)
			if e != api.OK {
				return e
			}
			return do(w, x)
		})
	}
	e := by(swap.do)
	if e == api.ErrFull {
		e = by(swap.doTight)
	}
	return e
}

// change does what is to be done in one Txn, and commits it; with an error nothing is done.
func (s *Store) change(do func(x *txn.Txn) api.Errno) api.Errno {
	if e := s.refused(); e != api.OK {
		return e
	}
	x, e := s.b.Begin()
	if e != api.OK {
		return e
	}
	// Behind a Commit there is nothing to abort.
	defer x.Abort()
	if e := do(x); e != api.OK {
		return e
	}
	return x.Commit()
}
