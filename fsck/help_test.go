package fsck

import (
	"maps"
	"math"
	"math/rand/v2"
	"slices"
	"testing"

	"rick/api"
	"rick/bitmap"
	"rick/chunk"
	"rick/crc"
	"rick/disk"
	"rick/node"
	"rick/page"
	"rick/store"
	"rick/super"
	"rick/tree"
	"rick/txn"
)

const least, most = math.MinInt64, math.MaxInt64

// sketch is an image that is laid by hand.
type sketch struct {
	super super.Super
	nodes map[int]node.Node
	bytes map[int][]byte // of chunks, by their first pages
	turn  []int          // pages whose bits in the bitmap are turned, when all that is told of is in use
}

// empty is a sketch without a chunk: its bitmap stands at page 2.
func empty(pages int) *sketch {
	return &sketch{
		super: super.Super{Gen: 1, Bitmap: 2, Pages: pages},
		nodes: map[int]node.Node{},
		bytes: map[int][]byte{},
	}
}

// samples is n samples from a time on, two of them a time apart of 3.
func samples(n int, at int64) []api.Sample {
	l := make([]api.Sample, n)
	for i := range l {
		l[i] = api.Sample{At: at + 3*int64(i), Val: uint64(at)*31 + uint64(i*i)}
	}
	return l
}

// chunk lays a chunk of n samples at a page, by a codec, and is the entry that tells of it.
func (s *sketch) chunk(addr, series int, start int64, n, codec int) node.Entry {
	l := samples(n, start)
	b, e := chunk.Encode(l, codec)
	if e != api.OK {
		panic(e)
	}
	s.bytes[addr] = b
	return node.Entry{
		Key: node.Key{Series: series, Start: start}, End: l[n-1].At,
		Addr: addr, Len: len(b), Count: n, Codec: codec, Crc: crc.Sum(crc.New(), b),
	}
}

// leaf and inner lay nodes.
func (s *sketch) leaf(addr int, l ...node.Entry) {
	s.nodes[addr] = node.Node{Leaf: true, Entries: l}
}

func (s *sketch) inner(addr int, kids ...int) {
	n := node.Node{Kids: kids}
	for _, kid := range kids {
		n.Keys = append(n.Keys, node.Least(s.nodes[kid]))
	}
	s.nodes[addr] = n
}

// root lets the tree begin at a page.
func (s *sketch) root(addr, height int) *sketch {
	s.super.Root = tree.Root{Addr: addr, Height: height}
	return s
}

// entry is a leaf's entry, to be changed.
func (s *sketch) entry(leaf, i int) *node.Entry { return &s.nodes[leaf].Entries[i] }

// sum lets an entry's sum be that of the bytes that stand in its pages.
func (s *sketch) sum(x *node.Entry, image []byte) {
	at := x.Addr * api.PageSize
	x.Crc = crc.Sum(crc.New(), image[at:at+x.Len])
}

// tall is a tree of three heights on 64 pages: node 3; nodes 4 and 5; leaves 6 and 7, and 8 and 9; chunks on pages 20 to 30.
func tall() *sketch {
	s := empty(64)
	s.leaf(6, s.chunk(20, 1, 0, 3, 6), s.chunk(21, 1, 100, 40, 0)) // pages 21 to 23
	s.leaf(7, s.chunk(24, 1, 300, 2, 15), s.chunk(25, 2, 0, 1, 3))
	s.leaf(8, s.chunk(26, 2, 100, 20, 0)) // pages 26 and 27
	s.leaf(9, s.chunk(28, 3, 0, 7, 9), s.chunk(29, 3, 50, 30, 4))
	s.inner(4, 6, 7)
	s.inner(5, 8, 9)
	s.inner(3, 4, 5)
	return s.root(3, 3)
}

// pagesOf is what tall tells of beneath a page, and that page.
func pagesOf(s *sketch, addr int) []int {
	n := s.nodes[addr]
	all := []int{addr}
	for _, x := range n.Entries {
		for i := range node.Pages(x) {
			all = append(all, x.Addr+i)
		}
	}
	for _, kid := range n.Kids {
		all = append(all, pagesOf(s, kid)...)
	}
	return all
}

// told is all pages that a sketch has anything at.
func (s *sketch) told() []int {
	all := []int{0, 1, s.super.Bitmap}
	all = slices.AppendSeq(all, maps.Keys(s.nodes))
	for addr, b := range s.bytes {
		for i := range (len(b) + 255) / 256 {
			all = append(all, addr+i)
		}
	}
	slices.Sort(all)
	return slices.Compact(all)
}

// image is a sketch as an image. Nodes stand there as they are, if they can be put.
func (s *sketch) image(t *testing.T) []byte {
	t.Helper()
	d, e := disk.New(s.super.Pages)
	want(t, "New", e, api.OK)
	for addr, b := range s.bytes {
		want(t, "WriteRaw", page.WriteRaw(d, addr, b), api.OK)
	}
	for addr, n := range s.nodes {
		body, e := node.Put(n)
		want(t, "node", e, api.OK)
		kind := byte(page.Inner)
		if n.Leaf {
			kind = page.Leaf
		}
		lay(t, d, page.Page{Kind: kind, Addr: addr, Gen: s.super.Gen, Body: body})
	}
	m := bitmap.New(s.super.Pages)
	for _, addr := range s.told() {
		m.Used[addr] = true
	}
	for _, addr := range s.turn {
		m.Used[addr] = !m.Used[addr]
	}
	lay(t, d, page.Page{Kind: page.Bitmap, Addr: s.super.Bitmap, Gen: s.super.Gen, Body: bitmap.Put(m)})
	want(t, "super", super.Write(crc.New(), d, s.super), api.OK)
	want(t, "Flush", d.Flush(), api.OK)
	return d.Image()
}

func lay(t *testing.T, d *disk.Disk, p page.Page) {
	t.Helper()
	want(t, "page", page.Write(crc.New(), d, p), api.OK)
}

// laid is an image with another page in it.
func laid(t *testing.T, image []byte, p page.Page) []byte {
	t.Helper()
	b, e := page.Put(crc.New(), p)
	want(t, "page", e, api.OK)
	now := slices.Clone(image)
	copy(now[p.Addr*api.PageSize:], b)
	return now
}

// pageAt is the page that stands in an image.
func pageAt(t *testing.T, image []byte, addr int) page.Page {
	t.Helper()
	p, e := page.Get(crc.New(), image[addr*api.PageSize:(addr+1)*api.PageSize])
	want(t, "page", e, api.OK)
	return p
}

// turned is an image in which a bit is another one.
func turned(image []byte, at int, bit int) []byte {
	now := slices.Clone(image)
	now[at] ^= 1 << bit
	return now
}

func want(t *testing.T, what string, got, should api.Errno) {
	t.Helper()
	if got != should {
		t.Fatalf("%s: %d, not %d", what, got, should)
	}
}

// wantDefects looks whether Check tells just these.
func wantDefects(t *testing.T, what string, image []byte, should ...Defect) {
	t.Helper()
	was := slices.Clone(image)
	l, e := Check(image)
	if e != api.OK || !slices.Equal(l, should) {
		t.Errorf("%s: %v, %d, not %v", what, l, e, should)
	}
	if !slices.Equal(image, was) {
		t.Errorf("%s: the image was changed", what)
	}
	if len(should) == 0 {
		wantRight(t, what, image)
	}
}

// all is defects of one kind.
func all(kind int, addrs ...int) []Defect {
	slices.Sort(addrs)
	var l []Defect
	for _, addr := range addrs {
		l = append(l, Defect{kind, addr})
	}
	return l
}

// wantRight looks whether an image is mounted, all of its chunks are read, its pages are each told of once, and those just are in use.
func wantRight(t *testing.T, what string, image []byte) {
	t.Helper()
	d, e := disk.Load(image)
	want(t, what+": Load", e, api.OK)
	b, e := txn.Mount(d)
	want(t, what+": Mount", e, api.OK)
	pages := []int{0, 1, b.Super().Bitmap}
	for x, e := range b.Entries() {
		want(t, what+": Entries", e, api.OK)
		_, e = b.Bytes(x)
		want(t, what+": Bytes", e, api.OK)
		for i := range node.Pages(x) {
			pages = append(pages, x.Addr+i)
		}
	}
	m := mapOf(t, d)
	v, e := tree.Open(crc.New(), d, b.Super().Gen, m, m)
	want(t, what+": Open", e, api.OK)
	nodes, e := v.Pages(b.Super().Root)
	want(t, what+": Pages", e, api.OK)
	pages = append(pages, nodes...)
	slices.Sort(pages)
	var used []int
	for addr, in := range m.Used {
		if in {
			used = append(used, addr)
		}
	}
	if !slices.Equal(pages, used) {
		t.Fatalf("%s: %v are in use, not %v", what, used, pages)
	}
	s, e := store.Open(d)
	want(t, what+": Open", e, api.OK)
	l, e := s.Series()
	want(t, what+": Series", e, api.OK)
	for _, series := range l {
		_, _, e := s.Chunks(series)
		want(t, what+": Chunks", e, api.OK)
	}
}

// mapOf is the bitmap of a disk's newest generation.
func mapOf(t *testing.T, d *disk.Disk) bitmap.Map {
	t.Helper()
	s, e := super.Newest(crc.New(), d)
	want(t, "Newest", e, api.OK)
	p, e := page.Read(crc.New(), d, s.Bitmap, page.Bitmap)
	want(t, "bitmap", e, api.OK)
	m, e := bitmap.Get(p.Body)
	want(t, "bitmap", e, api.OK)
	return m
}

func loaded(t *testing.T, image []byte) *disk.Disk {
	t.Helper()
	d, e := disk.Load(image)
	want(t, "Load", e, api.OK)
	return d
}

func formatted(t *testing.T, pages int) (*store.Store, *disk.Disk) {
	t.Helper()
	d, e := disk.New(pages)
	want(t, "New", e, api.OK)
	s, e := store.Format(d)
	want(t, "Format", e, api.OK)
	return s, d
}

func opened(t *testing.T, d *disk.Disk) *store.Store {
	t.Helper()
	s, e := store.Open(d)
	want(t, "Open", e, api.OK)
	return s
}

// ways is what may be kept of so many writes that wait: nothing, all, parts, the last one in part, and some.
func ways(r *rand.Rand, waiting int) [][]disk.Fate {
	every := make([]disk.Fate, waiting)
	for i := range every {
		every[i] = disk.Fate{Keep: true, Atoms: 255}
	}
	some, torn, last := slices.Clone(every), slices.Clone(every), slices.Clone(every)
	for i := range every {
		some[i].Keep = r.IntN(2) == 0
		torn[i] = disk.Fate{Keep: r.IntN(4) > 0, Atoms: uint8(r.Uint32())}
	}
	if waiting > 0 {
		last[waiting-1].Atoms = uint8(r.Uint32())
	}
	return [][]disk.Fate{nil, every, torn, last, some}
}
