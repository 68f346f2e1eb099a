package tree

import (
	"bytes"
	"slices"
	"testing"

	"rick/api"
	"rick/bitmap"
	"rick/crc"
	"rick/disk"
	"rick/node"
	"rick/page"
)

// gen is the generation of the tests' views.
const gen = 7

// fresh is a view of a disk of so many pages, noughts.
func fresh(t *testing.T, pages int) *View {
	t.Helper()
	d, e := disk.New(pages)
	if e != api.OK {
		t.Fatal(e)
	}
	return opened(t, d, bitmap.New(pages), bitmap.New(pages))
}

func opened(t *testing.T, d *disk.Disk, m, old bitmap.Map) *View {
	t.Helper()
	v, e := Open(crc.New(), d, gen, m, old)
	if e != api.OK {
		t.Fatal(e)
	}
	return v
}

// of is an entry of a series.
func of(series int, start, end int64) node.Entry {
	return node.Entry{Key: node.Key{Series: series, Start: start}, End: end, Addr: 5, Len: 1, Count: 1}
}

// at is the k-th entry of series 1, of ten times, with room on both sides.
func at(k int) node.Entry { return of(1, int64(100*k), int64(100*k+9)) }

func keyAt(k int) node.Key { return at(k).Key }

// run is the entries from the k-th one on.
func run(k, n int) []node.Entry {
	var l []node.Entry
	for i := range n {
		l = append(l, at(k+i))
	}
	return l
}

// craft writes a node to a page, which is in use then.
func craft(t *testing.T, v *View, addr int, n node.Node) {
	t.Helper()
	b, e := node.Put(n)
	if e != api.OK {
		t.Fatalf("%v can't be", n)
	}
	if e := page.Write(v.t, v.d, page.Page{Kind: kind(n.Leaf), Addr: addr, Gen: 1, Body: b}); e != api.OK {
		t.Fatal(e)
	}
	m := v.Map()
	m.Used[addr] = true
	v.SetMap(m)
}

// grow is a tree of height 3, of leaves of these sizes beneath each of the inner nodes.
func grow(t *testing.T, v *View, sizes [][]int) (Root, []node.Entry) {
	t.Helper()
	var all []node.Entry
	var top node.Node
	addr := 2
	for _, leaves := range sizes {
		var n node.Node
		for _, size := range leaves {
			l := run(len(all), size)
			craft(t, v, addr, node.Node{Leaf: true, Entries: l})
			n.Keys = append(n.Keys, l[0].Key)
			n.Kids = append(n.Kids, addr)
			all = append(all, l...)
			addr++
		}
		craft(t, v, addr, n)
		top.Keys = append(top.Keys, n.Keys[0])
		top.Kids = append(top.Kids, addr)
		addr++
	}
	craft(t, v, addr, top)
	return Root{addr, 3}, all
}

// times is n so often.
func times(n, often int) []int { return slices.Repeat([]int{n}, often) }

// shape is the sizes of a tree's nodes, from the root down.
func shape(t *testing.T, v *View, r Root) [][]int {
	t.Helper()
	if r.Height == 0 {
		if r.Addr != 0 {
			t.Errorf("an empty tree at %d", r.Addr)
		}
		return nil
	}
	var all [][]int
	level := []int{r.Addr}
	for height := r.Height; height > 0; height-- {
		var sizes, next []int
		for _, addr := range level {
			n, e := v.Node(addr, height == 1)
			if e != api.OK {
				t.Fatalf("page %d at height %d: %d", addr, height, e)
			}
			sizes = append(sizes, node.Size(n))
			next = append(next, n.Kids...)
		}
		all = append(all, sizes)
		level = next
	}
	return all
}

func sameShape(a, b [][]int) bool {
	return slices.EqualFunc(a, b, func(x, y []int) bool { return slices.Equal(x, y) })
}

// checkShape looks whether a tree has just these entries, in nodes of these sizes.
func checkShape(t *testing.T, v *View, base bitmap.Map, r Root, l []node.Entry, should [][]int) {
	t.Helper()
	if s := shape(t, v, r); !sameShape(s, should) {
		t.Errorf("%v, not %v", s, should)
	}
	check(t, v, base, r, l)
}

// check looks whether a tree has just these entries, tells them by each call, and takes no other pages more than base than those of its nodes.
func check(t *testing.T, v *View, base bitmap.Map, r Root, l []node.Entry) {
	t.Helper()
	all, e := v.All(r)
	if e != api.OK || !slices.Equal(all, l) {
		t.Fatalf("%d: %d entries, not %d: %v", e, len(all), len(l), all)
	}
	var pages []int
	if r.Height > 0 {
		least, _ := checkNode(t, v, r.Addr, r.Height, &pages)
		if least != l[0].Key {
			t.Fatalf("least %v", least)
		}
	}
	slices.Sort(pages)
	told, e := v.Pages(r)
	if e != api.OK || !slices.Equal(told, pages) {
		t.Fatalf("%d: pages %v, not %v", e, told, pages)
	}
	for _, addr := range pages {
		if base.Used[addr] {
			t.Fatalf("page %d was in use", addr)
		}
		base.Used[addr] = true
	}
	if v.Map() != base {
		t.Fatalf("other pages are in use than the tree's %v", pages)
	}
}

// checkNode looks at the nodes of a tree; it tells the least key, and how many entries there are.
func checkNode(t *testing.T, v *View, addr, height int, pages *[]int) (node.Key, int) {
	t.Helper()
	if slices.Contains(*pages, addr) {
		t.Fatalf("page %d twice", addr)
	}
	*pages = append(*pages, addr)
	n, e := v.Node(addr, height == 1)
	if e != api.OK {
		t.Fatalf("page %d at height %d: %d", addr, height, e)
	}
	count := len(n.Entries)
	for i, kid := range n.Kids {
		least, beneath := checkNode(t, v, kid, height-1, pages)
		if least != n.Keys[i] {
			t.Fatalf("page %d: key %v, not %v", addr, n.Keys[i], least)
		}
		count += beneath
	}
	return node.Least(n), count
}

// checkLeast looks whether each node but the root has as many as it should have at least.
func checkLeast(t *testing.T, v *View, r Root) {
	t.Helper()
	for i, sizes := range shape(t, v, r) {
		least := 8
		switch {
		case i == 0 && r.Height == 1:
			least = 1
		case i == 0:
			least = 2
		case i == r.Height-1:
			least = 3
		}
		if slices.Min(sizes) < least {
			t.Fatalf("%v", shape(t, v, r))
		}
	}
}

// bytesOf is what stands in pages that a map has in use.
func bytesOf(t *testing.T, d *disk.Disk, m bitmap.Map) []byte {
	t.Helper()
	var all []byte
	for addr := range m.Pages {
		if !m.Used[addr] {
			continue
		}
		b, e := page.ReadRaw(d, addr, api.PageSize)
		if e != api.OK {
			t.Fatal(e)
		}
		all = append(all, b...)
	}
	return all
}

// unchanged is called later, and looks whether a view's map and all pages that were in use stayed as they were.
func unchanged(t *testing.T, v *View) func() {
	t.Helper()
	m := v.Map()
	before := bytesOf(t, v.d, m)
	return func() {
		t.Helper()
		if v.Map() != m {
			t.Error("the map was changed")
		}
		if !bytes.Equal(bytesOf(t, v.d, m), before) {
			t.Error("pages in use were changed")
		}
	}
}

// wantRoot looks whether a call told an error, and nothing else.
func wantRoot(t *testing.T, what string, r Root, e, should api.Errno) {
	t.Helper()
	if e != should || r != (Root{}) {
		t.Errorf("%s: %v, %d; not %d", what, r, e, should)
	}
}

// wantAll looks whether each call tells an error, and nothing else.
func wantAll(t *testing.T, what string, v *View, r Root, should api.Errno) {
	t.Helper()
	if x, e := v.Find(r, keyAt(0)); e != should || x != (node.Entry{}) {
		t.Errorf("%s: Find: %v, %d; not %d", what, x, e, should)
	}
	got, e := v.Insert(r, at(0))
	wantRoot(t, what+": Insert", got, e, should)
	got, e = v.Delete(r, keyAt(0))
	wantRoot(t, what+": Delete", got, e, should)
	if l, e := v.All(r); e != should || len(l) != 0 {
		t.Errorf("%s: All: %v, %d; not %d", what, l, e, should)
	}
	if l, e := v.Pages(r); e != should || len(l) != 0 {
		t.Errorf("%s: Pages: %v, %d; not %d", what, l, e, should)
	}
}

// insert and remove are Insert and Delete that have to be done.
func insert(t *testing.T, v *View, r Root, l ...node.Entry) Root {
	t.Helper()
	for _, x := range l {
		var e api.Errno
		if r, e = v.Insert(r, x); e != api.OK {
			t.Fatalf("Insert of %v: %d", x, e)
		}
	}
	return r
}

func remove(t *testing.T, v *View, r Root, l ...node.Entry) Root {
	t.Helper()
	for _, x := range l {
		var e api.Errno
		if r, e = v.Delete(r, x.Key); e != api.OK {
			t.Fatalf("Delete of %v: %d", x, e)
		}
	}
	return r
}

func load(t *testing.T, v *View, l []node.Entry) Root {
	t.Helper()
	r, e := v.Load(l)
	if e != api.OK {
		t.Fatalf("Load of %d: %d", len(l), e)
	}
	return r
}
