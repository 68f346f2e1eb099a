package txn

import (
	"rick/api"
	"rick/bitmap"
	"rick/crc"
	"rick/node"
	"rick/page"
	"rick/super"
	"rick/tree"
)

// Txn is changes of a Base. It is over when it isn't the Base's any more.
type Txn struct {
	b    *Base
	v    *tree.View
	root tree.Root
}

// Put adds a chunk: its bytes, and the entry that tells of them.
func (t *Txn) Put(e node.Entry, b []byte) api.Errno {
	if err := t.refused(); err != api.OK {
		return err
	}
	// Any place will do till one is taken.
	e.Addr, e.Len, e.Crc = firstAddr, len(b), crc.Sum(t.b.t, b)
	if err := t.unfit(e); err != api.OK {
		return t.b.heard(err)
	}
	before := t.v.Map()
	m, addr, err := bitmap.Take(before, t.b.m, node.Pages(e))
	if err != api.OK {
		return t.failed(err, before)
	}
	e.Addr = addr
	t.v.SetMap(m)
	if err := page.WriteRaw(t.b.d, addr, b); err != api.OK {
		return t.failed(err, before)
	}
	root, err := t.v.Insert(t.root, e)
	if err != api.OK {
		return t.failed(err, before)
	}
	t.root = root
	return api.OK
}

// unfit tells tree.Insert's errors of an entry, ahead of all writing: where each page is in use, an entry that fits is told just that there is no room.
func (t *Txn) unfit(e node.Entry) api.Errno {
	all := t.b.m
	for i := range all.Pages {
		all.Used[i] = true
	}
	v, err := tree.Open(t.b.t, t.b.d, t.b.s.Gen, all, all)
	if err != api.OK {
		return err
	}
	if _, err := v.Insert(t.root, e); err != api.ErrFull {
		return err
	}
	return api.OK
}

// Drop deletes an entry, and gives its pages back.
func (t *Txn) Drop(k node.Key) api.Errno {
	if err := t.refused(); err != api.OK {
		return err
	}
	before := t.v.Map()
	e, err := t.v.Find(t.root, k)
	if err != api.OK {
		return t.failed(err, before)
	}
	root, err := t.v.Delete(t.root, k)
	if err != api.OK {
		return t.failed(err, before)
	}
	t.root = root
	t.v.SetMap(given(t.v.Map(), e.Addr, node.Pages(e)))
	return api.OK
}

// given is a map in which pages are given back. One that isn't in use needs no giving.
func given(m bitmap.Map, addr, n int) bitmap.Map {
	for i := range n {
		if less, e := bitmap.Give(m, addr+i, 1); e == api.OK {
			m = less
		}
	}
	return m
}

// Entries is all entries, with the changes.
func (t *Txn) Entries() ([]node.Entry, api.Errno) {
	if e := t.refused(); e != api.OK {
		return nil, e
	}
	l, e := t.v.All(t.root)
	return l, t.b.heard(e)
}

// Bytes is a chunk's bytes, with the changes.
func (t *Txn) Bytes(e node.Entry) ([]byte, api.Errno) {
	if err := t.refused(); err != api.OK {
		return nil, err
	}
	return t.b.Bytes(e)
}

// Commit makes the changes be the Base's next generation, there to stay.
func (t *Txn) Commit() api.Errno {
	if e := t.refused(); e != api.OK {
		return e
	}
	b, before := t.b, t.v.Map()
	m, addr, e := bitmap.Take(given(before, b.s.Bitmap, 1), b.m, 1)
	if e != api.OK {
		return t.failed(e, before)
	}
	s := super.Super{Gen: b.s.Gen + 1, Root: t.root, Bitmap: addr, Pages: b.s.Pages}
	// Looked for ahead of all writing: behind the last generation of all there is none.
	if _, e := super.Put(s); e != api.OK {
		return e
	}
	if e := b.lay(s, m); e != api.OK {
		return t.failed(e, before)
	}
	if e := b.d.Flush(); e != api.OK {
		return t.failed(e, before)
	}
	b.s, b.m, b.txn = s, m, nil
	return api.OK
}

// Abort lets nothing of the changes be there.
func (t *Txn) Abort() {
	if t.refused() == api.OK {
		t.b.txn = nil
	}
}

// refused tells why nothing can be done with a Txn.
func (t *Txn) refused() api.Errno {
	if t == nil {
		return api.ErrArg
	}
	if e := t.b.refused(); e != api.OK {
		return e
	}
	if t.b.txn != t {
		return api.ErrState
	}
	return api.OK
}

// failed is an error behind which the map is as it was before; where there is no room, the Txn is over.
func (t *Txn) failed(e api.Errno, before bitmap.Map) api.Errno {
	t.v.SetMap(before)
	if e == api.ErrFull {
		t.b.txn = nil
	}
	return t.b.heard(e)
}
