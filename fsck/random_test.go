package fsck

import (
	"cmp"
	"maps"
	"math/rand/v2"
	"slices"
	"testing"

	"rick/api"
	"rick/bitmap"
	"rick/chunk"
	"rick/crc"
	"rick/disk"
	"rick/node"
	"rick/page"
	"rick/super"
	"rick/tree"
	"rick/txn"
)

// counted is what is wrong with an image, found by counting: what is told of, and how often.
type counted struct {
	v     *tree.View
	b     *txn.Base
	pages int
	told  map[int]int
	bad   map[Defect]bool
	l     []node.Entry // all entries that were met
	leafs []int        // and where they stand
}

// plainly is what Check should tell of an image that is a disk's.
func plainly(t *testing.T, image []byte) []Defect {
	t.Helper()
	d := loaded(t, image)
	s, e := super.Newest(crc.New(), d)
	if e != api.OK {
		return []Defect{{NoSuper, 0}}
	}
	b, e := txn.Mount(d)
	if e != api.OK {
		return []Defect{{BadBitmap, s.Bitmap}}
	}
	m := mapOf(t, d)
	v, e := tree.Open(crc.New(), d, s.Gen, m, m)
	want(t, "Open", e, api.OK)
	c := counted{v: v, b: b, pages: s.Pages, told: map[int]int{0: 1, 1: 1, s.Bitmap: 1}, bad: map[Defect]bool{}}
	if s.Root.Height > 0 {
		c.beneath(s.Root, nil)
	}
	for i := 1; i < len(c.l); i++ {
		x, y := c.l[i-1], c.l[i]
		if !node.Less(x.Key, y.Key) || x.Key.Series == y.Key.Series && x.End >= y.Key.Start {
			c.bad[Defect{BadOrder, c.leafs[i]}] = true
		}
	}
	for addr := range s.Pages {
		c.bad[Defect{Twice, addr}] = c.told[addr] > 1
		c.bad[Defect{Missing, addr}] = c.told[addr] > 0 && !m.Used[addr]
		c.bad[Defect{Leaked, addr}] = c.told[addr] == 0 && m.Used[addr]
	}
	maps.DeleteFunc(c.bad, func(_ Defect, is bool) bool { return !is })
	return slices.SortedFunc(maps.Keys(c.bad), func(a, b Defect) int {
		return cmp.Compare(1000*a.Kind+a.Addr, 1000*b.Kind+b.Addr)
	})
}

// beneath counts what a node tells of; keys are what its parent has for it.
func (c *counted) beneath(r tree.Root, keys []node.Key) {
	c.told[r.Addr]++
	if c.told[r.Addr] > 1 {
		return
	}
	n, e := c.v.Node(r.Addr, r.Height == 1)
	if e != api.OK {
		c.bad[Defect{BadNode, r.Addr}] = true
		return
	}
	if len(keys) > 0 && keys[0] != node.Least(n) {
		c.bad[Defect{BadOrder, r.Addr}] = true
	}
	for _, x := range n.Entries {
		c.l, c.leafs = append(c.l, x), append(c.leafs, r.Addr)
		if x.Addr+node.Pages(x) > c.pages {
			c.bad[Defect{BadNode, r.Addr}] = true
			continue
		}
		for i := range node.Pages(x) {
			c.told[x.Addr+i]++
		}
		c.bad[Defect{BadChunk, x.Addr}] = c.bad[Defect{BadChunk, x.Addr}] || !c.reads(x)
	}
	for i, kid := range n.Kids {
		if kid >= c.pages {
			c.bad[Defect{BadNode, r.Addr}] = true
			continue
		}
		c.beneath(tree.Root{Addr: kid, Height: r.Height - 1}, n.Keys[i:])
	}
}

// reads tells whether the chunk can be read of which an entry tells.
func (c *counted) reads(x node.Entry) bool {
	b, e := c.b.Bytes(x)
	if e != api.OK {
		return false
	}
	l, codec, e := chunk.Decode(b)
	if e != api.OK {
		return false
	}
	says := node.Entry{Key: node.Key{Series: x.Key.Series, Start: l[0].At}, End: l[len(l)-1].At, Addr: x.Addr, Len: x.Len, Count: len(l), Codec: codec, Crc: x.Crc}
	return says == x
}

// bend changes something in a sketch; what can't be put then is as it was.
func bend(r *rand.Rand, s *sketch) {
	addrs := slices.Sorted(maps.Keys(s.nodes))
	addr := addrs[r.IntN(len(addrs))]
	n := s.nodes[addr]
	now := node.Node{Leaf: n.Leaf, Entries: slices.Clone(n.Entries), Keys: slices.Clone(n.Keys), Kids: slices.Clone(n.Kids)}
	// Places near all that is told of, and a few beyond the image.
	place := 2 + r.IntN(32)
	if r.IntN(6) == 0 {
		place = 60 + r.IntN(8)
	}
	if n.Leaf {
		bendEntry(r, s, &now.Entries[r.IntN(len(now.Entries))], place)
	} else {
		i := r.IntN(len(now.Kids))
		if r.IntN(3) > 0 {
			now.Kids[i] = place
		} else {
			now.Keys[i].Start += int64(r.IntN(201) - 100)
		}
	}
	if _, e := node.Put(now); e == api.OK {
		s.nodes[addr] = now
	}
}

// bendEntry changes something of an entry.
func bendEntry(r *rand.Rand, s *sketch, x *node.Entry, place int) {
	switch r.IntN(8) {
	case 0:
		x.Addr = place
	case 1:
		x.Len = 1 + r.IntN(900)
	case 2:
		x.Key.Series += r.IntN(3) - 1
	case 3:
		x.End += int64(r.IntN(300) - 100)
	case 4:
		x.Key.Start += int64(r.IntN(300) - 100)
	case 5:
		x.Codec = r.IntN(16)
	case 6:
		x.Count = 1 + r.IntN(200)
	case 7:
		// Another one's chunk, as it stands there.
		from := s.nodes[6+r.IntN(4)].Entries
		y := from[r.IntN(len(from))]
		y.Key.Series = x.Key.Series
		*x = y
	}
}

// P19.1, P19.2: sketches in which anything is another one, with sums that are right, against what counting finds.
func TestBent(t *testing.T) {
	kinds := map[int]int{}
	sound := 0
	for seed := range uint64(6000) {
		r := rand.New(rand.NewPCG(19, seed))
		s := tall()
		for range r.IntN(6) {
			bend(r, s)
		}
		for range r.IntN(4) * r.IntN(2) {
			s.turn = append(s.turn, 2+r.IntN(62))
		}
		if r.IntN(9) == 0 {
			s.super.Root = tree.Root{Addr: 3 + r.IntN(7), Height: 1 + r.IntN(5)}
		}
		image := s.image(t)
		if r.IntN(5) == 0 {
			image = turned(image, r.IntN(len(image)), r.IntN(8))
		}
		should := plainly(t, image)
		wantDefects(t, "bent", image, should...)
		if len(should) == 0 {
			sound++
		}
		for _, x := range should {
			kinds[x.Kind]++
		}
	}
	if sound < 100 || kinds[NoSuper] == 0 || kinds[BadBitmap] == 0 {
		t.Error(sound, kinds)
	}
	for kind := BadNode; kind <= Leaked; kind++ {
		if kinds[kind] < 500 {
			t.Error(kind, kinds)
		}
	}
}

// P19.1: images of arbitrary bytes, of bytes that are pages of a kind, and of a right superblock and bitmap over arbitrary bytes.
func TestGarbage(t *testing.T) {
	for seed := range uint64(300) {
		r := rand.New(rand.NewPCG(19, seed))
		image := make([]byte, (8+r.IntN(60))*256)
		for i := range image {
			image[i] = byte(r.Uint32())
		}
		wantDefects(t, "bytes", image, Defect{NoSuper, 0})
		image = make([]byte, (8+r.IntN(60))*256)
		d := loaded(t, image)
		for addr := range d.Pages() {
			body := make([]byte, r.IntN(page.Room+1))
			for i := range body {
				body[i] = byte(r.Uint32() & r.Uint32() & r.Uint32())
			}
			kinds := []byte{page.Super, page.Bitmap, page.Leaf, page.Inner}
			lay(t, d, page.Page{Kind: kinds[r.IntN(4)], Addr: addr, Gen: r.Uint64N(3), Body: body})
		}
		garbageIn(t, r, d)
	}
}

// garbageIn checks a disk of pages with arbitrary bodies, with superblock, bitmap and nodes that tell of arbitrary places.
func garbageIn(t *testing.T, r *rand.Rand, d *disk.Disk) {
	t.Helper()
	want(t, "Flush", d.Flush(), api.OK)
	if l, e := Check(d.Image()); e != api.OK || !slices.Equal(l, plainly(t, d.Image())) {
		t.Error(l, e)
	}
	pages := d.Pages()
	s := super.Super{Gen: 1 + r.Uint64N(9), Bitmap: 2 + r.IntN(pages-2), Pages: pages}
	s.Root = tree.Root{Addr: 2 + (s.Bitmap-2+1+r.IntN(pages-3))%(pages-2), Height: 1 + r.IntN(5)}
	want(t, "super", super.Write(crc.New(), d, s), api.OK)
	m := bitmap.New(pages)
	for addr := 2; addr < pages; addr++ {
		m.Used[addr] = r.IntN(2) == 0
	}
	for addr := 2; addr < pages; addr++ {
		lay(t, d, garbageNode(t, r, addr, pages))
	}
	lay(t, d, page.Page{Kind: page.Bitmap, Addr: s.Bitmap, Gen: 1, Body: bitmap.Put(m)})
	want(t, "Flush", d.Flush(), api.OK)
	image := d.Image()
	l := plainly(t, image)
	if len(l) == 0 || l[0].Kind < BadNode {
		t.Error(l)
	}
	wantDefects(t, "nodes", image, l...)
}

// garbageNode is a node that tells of arbitrary places.
func garbageNode(t *testing.T, r *rand.Rand, addr, pages int) page.Page {
	t.Helper()
	n, kind := node.Node{Leaf: r.IntN(3) == 0}, byte(page.Inner)
	if n.Leaf {
		kind = page.Leaf
		for i := range 1 + r.IntN(7) {
			at := int64(10 * i)
			n.Entries = append(n.Entries, node.Entry{
				Key: node.Key{Series: r.IntN(2) * i, Start: at}, End: at + int64(r.IntN(9)),
				Addr: 2 + r.IntN(pages), Len: 1 + r.IntN(600), Count: 1 + r.IntN(200), Codec: r.IntN(16),
			})
		}
		slices.SortFunc(n.Entries, func(a, b node.Entry) int { return cmp.Compare(a.Key.Series, b.Key.Series) })
	} else {
		kids := r.Perm(pages)
		for i := range 1 + r.IntN(6) {
			n.Kids = append(n.Kids, 2+kids[i])
			n.Keys = append(n.Keys, node.Key{Series: i})
		}
	}
	body, e := node.Put(n)
	want(t, "node", e, api.OK)
	return page.Page{Kind: kind, Addr: addr, Gen: 1, Body: body}
}
