package tree

import (
	"bytes"
	"math"
	"slices"
	"testing"

	"rick/api"
	"rick/bitmap"
	"rick/crc"
	"rick/disk"
	"rick/node"
	"rick/page"
)

// P13.1: a view has a disk, and two maps of as many pages.
func TestOpen(t *testing.T) {
	d, _ := disk.New(16)
	good, few, many := bitmap.New(16), bitmap.New(15), bitmap.New(17)
	wrong := good
	wrong.Used[1] = false
	for i, c := range []struct {
		d      *disk.Disk
		m, old bitmap.Map
		e      api.Errno
	}{
		{d, good, good, api.OK},
		{nil, good, good, api.ErrArg},
		{nil, bitmap.Map{}, bitmap.Map{}, api.ErrArg},
		{&disk.Disk{}, bitmap.Map{}, bitmap.Map{}, api.ErrArg},
		{d, wrong, good, api.ErrArg},
		{d, good, wrong, api.ErrArg},
		{d, bitmap.Map{}, good, api.ErrArg},
		{d, good, bitmap.Map{}, api.ErrArg},
		{d, few, good, api.ErrArg},
		{d, good, few, api.ErrArg},
		{d, many, good, api.ErrArg},
		{d, good, many, api.ErrArg},
		{d, few, few, api.ErrArg},
		{d, many, many, api.ErrArg},
	} {
		v, e := Open(crc.New(), c.d, gen, c.m, c.old)
		if e != c.e || (v == nil) != (e != api.OK) {
			t.Errorf("%d: %d, not %d", i, e, c.e)
		}
	}
	d.Fail(0)
	d.Flush()
	v, e := Open(crc.New(), d, gen, good, good)
	if e != api.OK {
		t.Fatal(e)
	}
	wantAll(t, "no power", v, Root{2, 1}, api.ErrStop)
	if n, e := v.Node(2, true); e != api.ErrStop || node.Size(n) != 0 {
		t.Error(n, e)
	}
	r, e := v.Load(run(0, 1))
	wantRoot(t, "Load", r, e, api.ErrStop)
	r, e = v.Insert(Root{}, at(0))
	wantRoot(t, "Insert", r, e, api.ErrStop)
	if v.Map() != good {
		t.Error("the map was changed")
	}
}

// P13.1 and P1: a nil View, and one that Open didn't make, answer ErrArg, or nothing.
func TestNil(t *testing.T) {
	for _, v := range []*View{nil, {}} {
		for _, r := range []Root{{}, {2, 1}, {2, 3}, {-5, 9}, {0, -1}} {
			wantAll(t, "nil", v, r, api.ErrArg)
		}
		for _, l := range [][]node.Entry{nil, run(0, 1), {at(1), at(0)}} {
			r, e := v.Load(l)
			wantRoot(t, "Load", r, e, api.ErrArg)
		}
		for _, leaf := range []bool{true, false} {
			if n, e := v.Node(2, leaf); e != api.ErrArg || node.Size(n) != 0 || n.Leaf {
				t.Error(n, e)
			}
		}
		v.SetMap(bitmap.New(8))
		v.SetMap(bitmap.Map{})
		if v.Map() != (bitmap.Map{}) {
			t.Error("a map")
		}
	}
}

// P13.1: Map tells which pages are in use; SetMap takes no map that can't be this disk's.
func TestMap(t *testing.T) {
	v := fresh(t, 16)
	m := bitmap.New(16)
	m.Used[9] = true
	v.SetMap(m)
	if v.Map() != m {
		t.Fatal("another map")
	}
	wrong := bitmap.New(16)
	wrong.Used[0] = false
	beyond := bitmap.New(16)
	beyond.Used[16] = true
	for _, w := range []bitmap.Map{wrong, beyond, bitmap.New(15), bitmap.New(17), {}} {
		v.SetMap(w)
		if v.Map() != m {
			t.Errorf("%d pages: taken", w.Pages)
		}
	}
	v.SetMap(bitmap.New(16))
	r := insert(t, v, Root{}, at(0))
	m = bitmap.New(16)
	m.Used[r.Addr] = true
	if v.Map() != m {
		t.Error("the leaf's page isn't the only one more")
	}
	d := opened(t, v.d, m, bitmap.New(16))
	if d.Map() != m {
		t.Error("Open's map")
	}
}

// P13.1: a node is read as what it is, where it stands.
func TestNode(t *testing.T) {
	v := fresh(t, 16)
	leaf := node.Node{Leaf: true, Entries: run(0, 3)}
	inner := node.Node{Keys: []node.Key{keyAt(0), keyAt(5)}, Kids: []int{2, 9}}
	craft(t, v, 2, leaf)
	craft(t, v, 3, inner)
	b, _ := node.Put(leaf)
	c, _ := node.Put(inner)
	table := crc.New()
	page.Write(table, v.d, page.Page{Kind: page.Leaf, Addr: 4, Body: c})
	page.Write(table, v.d, page.Page{Kind: page.Inner, Addr: 5, Body: b})
	page.Write(table, v.d, page.Page{Kind: page.Bitmap, Addr: 6, Body: b})
	page.Write(table, v.d, page.Page{Kind: page.Leaf, Addr: 7, Body: append(b, 0)})
	page.Write(table, v.d, page.Page{Kind: page.Leaf, Addr: 8})
	moved, _ := page.Put(table, page.Page{Kind: page.Leaf, Addr: 2, Body: b})
	page.WriteRaw(v.d, 9, moved)
	page.Write(table, v.d, page.Page{Kind: page.Leaf, Addr: 1, Gen: math.MaxUint64, Body: b})
	for _, c := range []struct {
		addr int
		leaf bool
		size int
		e    api.Errno
	}{
		{2, true, 3, api.OK}, {2, false, 0, api.ErrForm},
		{3, false, 2, api.OK}, {3, true, 0, api.ErrForm},
		{4, true, 0, api.ErrForm}, {4, false, 0, api.ErrForm},
		{5, true, 0, api.ErrForm}, {5, false, 0, api.ErrForm},
		{6, true, 0, api.ErrForm}, {7, true, 0, api.ErrForm}, {8, true, 0, api.ErrForm}, {9, true, 0, api.ErrForm}, {10, true, 0, api.ErrForm},
		{1, true, 3, api.OK},
		{-1, true, 0, api.ErrArg}, {16, false, 0, api.ErrArg}, {511, true, 0, api.ErrArg}, {math.MaxInt, true, 0, api.ErrArg}, {math.MinInt, true, 0, api.ErrArg},
	} {
		n, e := v.Node(c.addr, c.leaf)
		if e != c.e || node.Size(n) != c.size || n.Leaf != (c.leaf && e == api.OK) {
			t.Errorf("page %d, %v: %v, %d", c.addr, c.leaf, n, e)
		}
	}
	n, _ := v.Node(2, true)
	m, _ := v.Node(3, false)
	if !slices.Equal(n.Entries, leaf.Entries) || !slices.Equal(m.Keys, inner.Keys) || !slices.Equal(m.Kids, inner.Kids) {
		t.Error(n, m)
	}
}

// P13.1: an empty tree, wherever its Root says that it stands.
func TestEmpty(t *testing.T) {
	for _, addr := range []int{0, 2, -1, 1000} {
		v := fresh(t, 16)
		r := Root{Addr: addr}
		if x, e := v.Find(r, keyAt(0)); e != api.ErrNone || x != (node.Entry{}) {
			t.Error(x, e)
		}
		got, e := v.Delete(r, keyAt(0))
		wantRoot(t, "Delete", got, e, api.ErrNone)
		if l, e := v.All(r); len(l) != 0 || e != api.OK {
			t.Error(l, e)
		}
		if l, e := v.Pages(r); len(l) != 0 || e != api.OK {
			t.Error(l, e)
		}
		if v.Map() != bitmap.New(16) || v.d.Waiting() != 0 {
			t.Error("something was done")
		}
		checkShape(t, v, bitmap.New(16), insert(t, v, r, at(0)), run(0, 1), [][]int{{1}})
		r = load(t, v, nil)
		if r != (Root{}) {
			t.Error(r)
		}
	}
}

// P13.1: the chapter's example; a node is written as a page of the generation, of its kind, at its place.
func TestFirst(t *testing.T) {
	v := fresh(t, 16)
	r, e := v.Insert(Root{}, at(3))
	if r.Height != 1 || e != api.OK || v.d.Waiting() != 4 {
		t.Fatal(r, e)
	}
	p, e := page.Read(crc.New(), v.d, r.Addr, page.Leaf)
	b, _ := node.Put(node.Node{Leaf: true, Entries: []node.Entry{at(3)}})
	if e != api.OK || p.Gen != gen || !bytes.Equal(p.Body, b) {
		t.Error(p, e)
	}
	r = insert(t, v, Root{}, run(10, 8)...)
	p, e = page.Read(crc.New(), v.d, r.Addr, page.Inner)
	if r.Height != 2 || e != api.OK || p.Gen != gen {
		t.Error(r, p, e)
	}
	n, e := node.Get(false, p.Body)
	if e != api.OK || !slices.Equal(n.Keys, []node.Key{keyAt(10), keyAt(14)}) {
		t.Error(n, e)
	}
	r = remove(t, v, insert(t, v, Root{}, at(3)), at(3))
	if r != (Root{}) {
		t.Error(r)
	}
}

// P13.1: an entry is found by just its key.
func TestFind(t *testing.T) {
	for _, n := range []int{1, 2, 7, 8, 50, 112, 113, 300} {
		v := fresh(t, 200)
		r := load(t, v, run(0, n))
		for k := range n {
			if x, e := v.Find(r, keyAt(k)); x != at(k) || e != api.OK {
				t.Fatalf("%d of %d: %v, %d", k, n, x, e)
			}
			for _, key := range []node.Key{{Series: 1, Start: int64(100*k - 1)}, {Series: 1, Start: int64(100*k + 1)}, {Series: 0, Start: int64(100 * k)}, {Series: 2, Start: int64(100 * k)}} {
				if x, e := v.Find(r, key); x != (node.Entry{}) || e != api.ErrNone {
					t.Fatalf("%v of %d: %v, %d", key, n, x, e)
				}
				got, e := v.Delete(r, key)
				wantRoot(t, "Delete", got, e, api.ErrNone)
			}
		}
		for _, key := range []node.Key{{Series: -1}, {Series: 1, Start: math.MinInt64}, {Series: 1, Start: math.MaxInt64}, {Series: math.MaxInt, Start: 5}, {Series: math.MinInt}} {
			if x, e := v.Find(r, key); x != (node.Entry{}) || e != api.ErrNone {
				t.Errorf("%v of %d: %v, %d", key, n, x, e)
			}
			got, e := v.Delete(r, key)
			wantRoot(t, "Delete", got, e, api.ErrNone)
		}
		check(t, v, bitmap.New(200), r, run(0, n))
	}
}

// P13.1: heights that can't be.
func TestHeight(t *testing.T) {
	v := fresh(t, 100)
	r := load(t, v, run(0, 50))
	still := unchanged(t, v)
	for _, height := range []int{math.MinInt, -2, -1, 6, 7, 100, math.MaxInt} {
		wantAll(t, "height", v, Root{r.Addr, height}, api.ErrArg)
		wantAll(t, "height", v, Root{0, height}, api.ErrArg)
	}
	for _, height := range []int{1, 3, 4, 5} {
		wantAll(t, "another height", v, Root{r.Addr, height}, api.ErrForm)
	}
	for _, addr := range []int{-1, 100, 511, math.MaxInt} {
		for height := 1; height <= 5; height++ {
			wantAll(t, "addr", v, Root{addr, height}, api.ErrArg)
		}
	}
	still()
}

// P13.1: a tree may be five high.
func TestFiveHigh(t *testing.T) {
	v := fresh(t, 100)
	craft(t, v, 2, node.Node{Leaf: true, Entries: run(0, 3)})
	for addr := 3; addr <= 6; addr++ {
		craft(t, v, addr, node.Node{Keys: []node.Key{keyAt(0)}, Kids: []int{addr - 1}})
	}
	r := Root{6, 5}
	if l, e := v.All(r); e != api.OK || !slices.Equal(l, run(0, 3)) {
		t.Error(l, e)
	}
	if l, e := v.Pages(r); e != api.OK || !slices.Equal(l, []int{2, 3, 4, 5, 6}) {
		t.Error(l, e)
	}
	if x, e := v.Find(r, keyAt(2)); e != api.OK || x != at(2) {
		t.Error(x, e)
	}
	if x, e := v.Find(r, keyAt(3)); e != api.ErrNone || x != (node.Entry{}) {
		t.Error(x, e)
	}
}

// P13.1: a tree as high as may be, whose nodes have as many as may be, doesn't grow.
func TestTooHigh(t *testing.T) {
	for _, height := range []int{4, 5} {
		v := fresh(t, 512)
		addr := 2
		craft(t, v, addr, node.Node{Leaf: true, Entries: run(0, 7)})
		for level := range height - 1 {
			n := node.Node{Keys: []node.Key{keyAt(0)}, Kids: []int{addr}}
			for i := range 15 {
				n.Keys = append(n.Keys, keyAt(100*(level+1)+i))
				n.Kids = append(n.Kids, 400+i)
			}
			addr++
			craft(t, v, addr, n)
		}
		still := unchanged(t, v)
		r, e := v.Insert(Root{addr, height}, at(7))
		if height == 5 {
			wantRoot(t, "Insert", r, e, api.ErrFull)
			still()
			continue
		}
		if r.Height != 5 || e != api.OK {
			t.Error(r, e)
		}
		if x, e := v.Find(r, keyAt(7)); x != at(7) || e != api.OK {
			t.Error(x, e)
		}
	}
}

// P13.1: where a tree's page isn't a node, each call that comes to it tells it, and changes nothing.
func TestNoNode(t *testing.T) {
	for _, n := range []int{7, 50, 120} {
		v := fresh(t, 100)
		r := load(t, v, run(0, n))
		pages, _ := v.Pages(r)
		for _, addr := range pages {
			whole, _ := page.ReadRaw(v.d, addr, 256)
			for _, b := range [][]byte{make([]byte, 256), append([]byte{'B'}, whole[1:]...)} {
				page.WriteRaw(v.d, addr, b)
				checkNoNode(t, v, r, n, addr)
			}
			page.WriteRaw(v.d, addr, whole)
		}
		check(t, v, bitmap.New(100), r, run(0, n))
	}
}

// checkNoNode looks at each call on a tree of n entries, of which one page isn't a node.
func checkNoNode(t *testing.T, v *View, r Root, n, addr int) {
	t.Helper()
	still := unchanged(t, v)
	if l, e := v.All(r); len(l) != 0 || e != api.ErrForm {
		t.Errorf("page %d: All: %d, %d", addr, len(l), e)
	}
	if l, e := v.Pages(r); len(l) != 0 || e != api.ErrForm {
		t.Errorf("page %d: Pages: %d, %d", addr, len(l), e)
	}
	stopped := 0
	for k := range n {
		x, e := v.Find(r, keyAt(k))
		switch {
		case e == api.OK && x == at(k):
			continue
		case e != api.ErrForm || x != (node.Entry{}):
			t.Errorf("page %d: Find %d: %v, %d", addr, k, x, e)
		}
		stopped++
		got, e := v.Delete(r, keyAt(k))
		wantRoot(t, "Delete", got, e, api.ErrForm)
		got, e = v.Insert(r, of(1, int64(100*k+50), int64(100*k+50)))
		wantRoot(t, "Insert", got, e, api.ErrForm)
		got, e = v.Insert(r, at(k))
		wantRoot(t, "Insert", got, e, api.ErrForm)
	}
	if stopped == 0 {
		t.Errorf("page %d: all is found", addr)
	}
	still()
}

// P13.1: a neighbour that isn't a node is told only where a node is joined with it, and nothing is changed.
func TestNoNeighbour(t *testing.T) {
	for _, c := range []struct{ broken, first int }{{1, 0}, {1, 14}} {
		v := fresh(t, 100)
		r := load(t, v, run(0, 21))
		n, _ := v.Node(r.Addr, false)
		page.WriteRaw(v.d, n.Kids[c.broken], make([]byte, 256))
		for k := range 4 {
			r = remove(t, v, r, at(c.first+k))
		}
		still := unchanged(t, v)
		got, e := v.Delete(r, keyAt(c.first+4))
		wantRoot(t, "Delete", got, e, api.ErrForm)
		still()
		if x, e := v.Find(r, keyAt(c.first+4)); x != at(c.first+4) || e != api.OK {
			t.Error(x, e)
		}
	}
}

// P13.1: answers are new memory.
func TestAnswers(t *testing.T) {
	v := fresh(t, 100)
	r := load(t, v, run(0, 50))
	for range 2 {
		l, _ := v.All(r)
		clear(l)
		p, _ := v.Pages(r)
		clear(p)
		n, _ := v.Node(r.Addr, false)
		clear(n.Keys)
		clear(n.Kids)
	}
	check(t, v, bitmap.New(100), r, run(0, 50))
}
