package fsck

import (
	"slices"
	"testing"

	"rick/api"
	"rick/node"
	"rick/page"
)

// P19.1: two entries of one chunk, which both are right: just its pages are told of twice.
func TestOneChunkTwice(t *testing.T) {
	for _, n := range []int{3, 40} {
		s := empty(64)
		x := s.chunk(20, 1, 0, n, 0)
		y, z := x, x
		y.Key.Series, z.Key.Series = 2, 3
		s.leaf(6, x, y)
		s.leaf(7, z)
		s.inner(3, 6, 7)
		pages := pagesOf(s, 7)[1:]
		wantDefects(t, "thrice", s.root(3, 2).image(t), all(Twice, pages...)...)
		s.turn = pages
		wantDefects(t, "and missing", s.image(t), append(all(Twice, pages...), all(Missing, pages...)...)...)
	}
	// Two that are wrong at one page are one defect.
	s := tall()
	s.entry(6, 0).Addr, s.entry(7, 0).Addr = 28, 28
	wantDefects(t, "both bad", s.image(t), slices.Concat(all(BadChunk, 28), all(Twice, 28), all(Leaked, 20, 24))...)
}

// P19.1: a chunk whose pages are others', too.
func TestChunkTwice(t *testing.T) {
	beneath := func(addr int) []int { return pagesOf(tall(), addr)[1:] }
	for _, c := range []struct {
		what    string
		leaf, i int
		addr    int
		twice   []int
		leaked  []int
	}{
		{"a chunk ahead", 7, 0, 20, []int{20}, []int{24}},
		{"a chunk behind", 7, 0, 28, []int{28}, []int{24}},
		{"the middle of one", 7, 0, 22, []int{22}, []int{24}},
		{"the next one", 6, 1, 24, []int{24, 25, 26}, []int{21, 22, 23}},
		{"a part of itself", 6, 1, 22, []int{24}, []int{21}},
		{"the bitmap", 7, 0, 2, []int{2}, []int{24}},
		{"bitmap and nodes", 6, 1, 2, []int{2, 3, 4}, []int{21, 22, 23}},
		{"the root", 9, 0, 3, []int{3}, []int{28}},
		{"its leaf", 7, 1, 7, []int{7}, []int{25}},
		{"a leaf ahead", 9, 0, 6, []int{6}, []int{28}},
		{"a leaf behind", 6, 0, 8, []int{8}, append(beneath(8), 20)},
		{"a node behind", 6, 0, 5, []int{5}, append(beneath(5), 20)},
	} {
		s := tall()
		s.entry(c.leaf, c.i).Addr = c.addr
		wantDefects(t, c.what, s.image(t), slices.Concat(all(BadChunk, c.addr), all(Twice, c.twice...), all(Leaked, c.leaked...))...)
	}
}

// shared is tall, but that both inner nodes have one leaf, by the same key.
func shared() *sketch {
	s := tall()
	s.nodes[5].Kids[0] = 7
	s.nodes[5].Keys[0] = s.nodes[4].Keys[1]
	return s
}

// P19.1: a node that is told of twice isn't gone into again.
func TestNodeTwice(t *testing.T) {
	beneath := func(addr int) []int { return pagesOf(tall(), addr)[1:] }
	for _, c := range []struct {
		what      string
		parent, i int
		addr      int
		leaked    []int
	}{
		{"the root in itself", 3, 0, 3, pagesOf(tall(), 4)},
		{"the root in itself, at last", 3, 1, 3, pagesOf(tall(), 5)},
		{"the root as a leaf", 4, 1, 3, pagesOf(tall(), 7)},
		{"a node in itself", 4, 0, 4, pagesOf(tall(), 6)},
		{"a node beside it", 5, 0, 4, pagesOf(tall(), 8)},
		{"a leaf ahead", 5, 1, 6, pagesOf(tall(), 9)},
		{"a leaf as a node", 3, 1, 7, pagesOf(tall(), 5)},
		{"the bitmap", 4, 1, 2, pagesOf(tall(), 7)},
		{"the bitmap, higher", 3, 0, 2, pagesOf(tall(), 4)},
		{"a chunk ahead", 5, 0, 24, pagesOf(tall(), 8)},
		{"a chunk ahead, higher", 3, 1, 22, pagesOf(tall(), 5)},
	} {
		s := tall()
		s.nodes[c.parent].Kids[c.i] = c.addr
		wantDefects(t, c.what, s.image(t), append(all(Twice, c.addr), all(Leaked, c.leaked...)...)...)
	}
	for what, c := range map[string]struct {
		parent, i, addr int
		should          []Defect
	}{
		// It is met as another one's leaf first, and its own parent tells of it again.
		"a leaf behind": {4, 1, 9, slices.Concat(all(BadOrder, 8, 9), all(Twice, 9), all(Leaked, pagesOf(tall(), 7)...))},
		// Nodes that can't be read where they are met first.
		"a node behind, as a leaf":  {4, 1, 5, slices.Concat(all(BadNode, 5), all(Twice, 5), all(Leaked, append(pagesOf(tall(), 7), beneath(5)...)...))},
		"a leaf behind, as a node":  {3, 0, 8, slices.Concat(all(BadNode, 8), all(Twice, 8), all(Leaked, append(pagesOf(tall(), 4), beneath(8)...)...))},
		"a chunk behind":            {4, 1, 28, slices.Concat(all(BadNode, 28), all(Twice, 28), all(Leaked, pagesOf(tall(), 7)...))},
		"a page that isn't in use":  {4, 1, 50, slices.Concat(all(BadNode, 50), all(Missing, 50), all(Leaked, pagesOf(tall(), 7)...))},
		"the last page of an image": {3, 1, 63, slices.Concat(all(BadNode, 63), all(Missing, 63), all(Leaked, pagesOf(tall(), 5)...))},
	} {
		s := tall()
		s.nodes[c.parent].Kids[c.i] = c.addr
		wantDefects(t, what, s.image(t), c.should...)
	}
	// The second parent's key isn't held against it; the parent's own least key is, and its entries aren't told of again.
	s := shared()
	wantDefects(t, "shared", s.image(t), slices.Concat(all(BadOrder, 5), all(Twice, 7), all(Leaked, pagesOf(tall(), 8)...))...)
	s.nodes[3].Keys[1] = s.nodes[5].Keys[0]
	s.nodes[5].Keys[0].Start++
	s.nodes[3].Keys[1].Start++
	wantDefects(t, "shared", s.image(t), slices.Concat(all(Twice, 7), all(Leaked, pagesOf(tall(), 8)...))...)
	s.entry(7, 0).Crc++
	s.nodes[4].Keys[1].Start--
	wantDefects(t, "shared, and bad", s.image(t), slices.Concat(all(BadOrder, 7), all(BadChunk, 24), all(Twice, 7), all(Leaked, pagesOf(tall(), 8)...))...)
}

// P19.1: nodes that tell of one another, sixteen each, at five heights: that ends, and each is told of but once.
func TestCircles(t *testing.T) {
	s := empty(64)
	var kids, twice []int
	for addr := 3; addr < 19; addr++ {
		kids = append(kids, addr)
	}
	for _, addr := range kids {
		n := node.Node{Kids: kids}
		for i := range kids {
			n.Keys = append(n.Keys, node.Key{Series: i})
		}
		s.nodes[addr] = n
	}
	image := s.root(3, 5).image(t)
	l, e := Check(image)
	want(t, "Check", e, api.OK)
	for _, x := range l {
		switch x.Kind {
		case Twice:
			twice = append(twice, x.Addr)
		case BadNode, BadOrder:
		default:
			t.Error(x)
		}
	}
	if !slices.Equal(twice, kids) {
		t.Error(twice)
	}
}

// P19.1: a tree of very many entries, each of as many bytes as may be, all at one place: that ends, and each defect is told once.
func TestLong(t *testing.T) {
	s := empty(512)
	s.bytes[256] = make([]byte, 65535)
	long := node.Entry{Addr: 256, Len: 65535, Count: 200, Codec: 3}
	addr := 3
	var nodes []int
	for range 14 {
		var leaves []int
		for range 16 {
			var entries []node.Entry
			for range api.LeafMost {
				long.Key.Series++
				entries = append(entries, long)
			}
			s.leaf(addr, entries...)
			leaves = append(leaves, addr)
			addr++
		}
		s.inner(addr, leaves...)
		nodes = append(nodes, addr)
		addr++
	}
	s.inner(addr, nodes...)
	var pages []int
	for page := 256; page < 512; page++ {
		pages = append(pages, page)
	}
	wantDefects(t, "long", s.root(addr, 3).image(t), append(all(BadChunk, 256), all(Twice, pages...)...)...)
}

// P19.1: defects of all kinds but the first two, each of two pages and more, rising.
func TestSeveral(t *testing.T) {
	s := tall()
	s.nodes[3].Keys[1].Start--   // BadOrder 5
	s.nodes[4].Keys[1].Start--   // BadOrder 7
	s.nodes[5].Kids[1] = 40      // BadNode 40, Missing 40
	s.entry(6, 0).Crc++          // BadChunk 20
	s.entry(7, 1).Addr = 22      // BadChunk 22, Twice 22, Leaked 25
	s.entry(7, 0).Addr = 63      // BadChunk 63, Missing 63
	s.turn = []int{4, 5, 50, 63} // Missing 4 and 5, Leaked 50, none of 63
	image := s.image(t)
	wantDefects(t, "several", image, slices.Concat(
		all(BadNode, 40),
		all(BadOrder, 5, 7),
		all(BadChunk, 20, 22, 63),
		all(Twice, 22),
		all(Missing, 4, 5, 40),
		all(Leaked, append([]int{24, 25, 50}, pagesOf(tall(), 9)...)...),
	)...)
	p := pageAt(t, image, 2)
	p.Kind = page.Leaf
	wantDefects(t, "no bitmap", laid(t, image, p), Defect{BadBitmap, 2})
	p = pageAt(t, image, 1)
	p.Gen = 3
	wantDefects(t, "no super", laid(t, image, p), Defect{NoSuper, 0})
}

// P19.4: an answer is new memory, and hangs on the image as it was.
func TestNew(t *testing.T) {
	s := tall()
	s.turn = []int{5, 50}
	whole := append(s.image(t), 7, 7, 7)
	image := whole[:64*256]
	first, _ := Check(image)
	first[0] = Defect{99, 99}
	_ = append(first, Defect{98, 98})
	second, _ := Check(image)
	clear(image)
	if !slices.Equal(second, []Defect{{Missing, 5}, {Leaked, 50}}) || whole[64*256] != 7 {
		t.Error(second)
	}
}
