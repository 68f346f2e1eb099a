package txn

import (
	"bytes"
	"math/rand/v2"
	"slices"
	"testing"

	"rick/api"
	"rick/crc"
	"rick/disk"
	"rick/node"
)

// life is a disk through many generations, and what should be there.
type life struct {
	t   *testing.T
	r   *rand.Rand
	d   *disk.Disk
	b   *Base
	gen uint64
	has []part
}

// some is a chunk at random; its span may meet another one's.
func (l *life) some() part {
	p := of(l.r.IntN(3), 10*l.r.IntN(60), 1+l.r.IntN(600))
	p.e.End = p.e.Key.Start + int64(l.r.IntN(15))
	return p
}

// should is what a Put should tell, if there is room.
func should(has []part, p part) api.Errno {
	e := api.OK
	for _, q := range has {
		if q.e.Key == p.e.Key {
			return api.ErrKnown
		}
		if q.e.Key.Series == p.e.Key.Series && q.e.Key.Start <= p.e.End && p.e.Key.Start <= q.e.End {
			e = api.ErrOverlap
		}
	}
	return e
}

// change does a Put or a Drop, and tells what should be there then, and the error.
func (l *life) change(x *Txn, now []part) ([]part, api.Errno) {
	l.t.Helper()
	p := l.some()
	if l.r.IntN(5) < 3 {
		e, told := should(now, p), x.Put(p.e, p.b)
		if told == api.ErrFull || told == api.ErrStop {
			return now, told
		}
		want(l.t, "Put", told, e)
		if e == api.OK {
			now = append(now, p)
		}
		return now, api.OK
	}
	if len(now) > 0 && l.r.IntN(8) > 0 {
		p = now[l.r.IntN(len(now))]
	}
	at := slices.IndexFunc(now, func(q part) bool { return q.e.Key == p.e.Key })
	told := x.Drop(p.e.Key)
	switch {
	case told == api.ErrFull || told == api.ErrStop:
		return now, told
	case at < 0:
		want(l.t, "Drop", told, api.ErrNone)
	default:
		want(l.t, "Drop", told, api.OK)
		now = slices.Delete(now, at, at+1)
	}
	return now, api.OK
}

// txn does a Txn at random; power may go in it.
func (l *life) txn(power bool) {
	l.t.Helper()
	x := begun(l.t, l.b)
	now := slices.Clone(l.has)
	before := inUse(l.t, l.d, l.b)
	if power {
		l.d.Fail(l.r.IntN(60))
	}
	e := api.OK
	for range l.r.IntN(8) {
		if now, e = l.change(x, now); e != api.OK {
			break
		}
	}
	if e == api.OK && l.r.IntN(6) > 0 {
		if got, e := x.Entries(); l.d.On() {
			want(l.t, "Entries", e, api.OK)
			wantEntries(l.t, "in the Txn", got, x.Bytes, now)
			if !bytes.Equal(inUse(l.t, l.d, l.b), before) {
				l.t.Fatal("pages in use were written")
			}
		}
		if e = x.Commit(); e == api.OK {
			l.gen, l.has = l.gen+1, now
		}
	}
	l.end(x, e, now)
}

// end is what comes behind a Txn's calls.
func (l *life) end(x *Txn, e api.Errno, now []part) {
	l.t.Helper()
	switch e {
	case api.ErrStop:
		all := ways(l.r, l.d.Waiting())
		l.d.Crash(all[l.r.IntN(len(all))])
		l.b = mounted(l.t, l.d)
		if l.b.Super().Gen == l.gen+1 {
			l.gen, l.has = l.gen+1, now
		}
	case api.ErrFull:
		wantOver(l.t, "full", x)
	default:
		x.Abort()
	}
	l.d.Fail(-1)
	wantBase(l.t, "behind a Txn", l.b, l.d, l.gen, l.has)
}

// P16.1 to P16.3, P7: through many generations, with and without power that goes, on disks with much room and with little.
func TestLives(t *testing.T) {
	for seed, pages := range []int{8, 10, 16, 24, 40, 64, 128, 300, 512} {
		for _, power := range []bool{false, true} {
			d := fresh(t, pages)
			b, e := Format(d)
			if e != api.OK {
				t.Fatal(e)
			}
			l := &life{t: t, r: rand.New(rand.NewPCG(uint64(seed), 16)), d: d, b: b, gen: 1}
			for i := range 200 {
				l.txn(power && l.r.IntN(3) == 0)
				if i%20 == 0 {
					wantMounted(t, "from time to time", d, l.gen, l.has)
				}
			}
			if l.gen < 20 {
				t.Error(pages, l.gen)
			}
			l.empty(pages)
		}
	}
}

// empty drops all: as many pages are free then as at first. A disk with little room may have none for that.
func (l *life) empty(pages int) {
	l.t.Helper()
	for len(l.has) > 0 {
		if l.drops(1) != api.OK && l.drops(len(l.has)) != api.OK {
			if pages > 100 {
				l.t.Error(pages, "no room")
			}
			return
		}
	}
	wantMounted(l.t, "empty", l.d, l.gen, nil)
	if l.b.Free() != pages-3 {
		l.t.Error(l.b.Free())
	}
}

// drops drops the first n chunks in one Txn, if there is room.
func (l *life) drops(n int) api.Errno {
	l.t.Helper()
	x := begun(l.t, l.b)
	for _, p := range l.has[:n] {
		if e := x.Drop(p.e.Key); e != api.OK {
			want(l.t, "Drop", e, api.ErrFull)
			return e
		}
	}
	if e := x.Commit(); e != api.OK {
		want(l.t, "Commit", e, api.ErrFull)
		return e
	}
	l.has, l.gen = l.has[n:], l.gen+1
	return api.OK
}

// P16.4: the same calls on two disks lay the same bytes, whatever becomes of what was handed in and answered.
func TestSameBytes(t *testing.T) {
	lay := func(spoil bool) []byte {
		b, d := formatted(t, 64)
		r := rand.New(rand.NewPCG(4, 16))
		for range 30 {
			x := begun(t, b)
			p := of(r.IntN(3), 20*r.IntN(9), 1+r.IntN(700))
			if x.Put(p.e, p.b) == api.ErrKnown {
				drop(t, x, p)
			}
			if spoil {
				clear(p.b)
				l, _ := x.Entries()
				for i := range l {
					got, _ := x.Bytes(l[i])
					clear(got)
					l[i] = node.Entry{}
				}
			}
			commit(t, x)
		}
		return d.Image()
	}
	if a, b := lay(false), lay(true); !bytes.Equal(a, b) {
		t.Error(crc.Sum(crc.New(), a), crc.Sum(crc.New(), b))
	}
}
