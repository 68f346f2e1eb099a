package fsck

import (
	"math"
	"slices"
	"testing"

	"rick/api"
	"rick/bitmap"
	"rick/chunk"
	"rick/crc"
	"rick/node"
	"rick/page"
	"rick/super"
)

// P19.1: what disk.Load refuses.
func TestRefused(t *testing.T) {
	whole := tall().image(t)
	for _, image := range [][]byte{
		nil, {}, {0}, make([]byte, 64), make([]byte, 256), make([]byte, 7*256), make([]byte, 8*256-1), make([]byte, 8*256+1),
		make([]byte, 8*256+64), make([]byte, 512*256+1), make([]byte, 513*256), make([]byte, 1024*256),
		whole[:len(whole)-1], whole[:len(whole)-64], append(slices.Clone(whole), 0), whole[:7*256],
	} {
		if l, e := Check(image); len(l) != 0 || e != api.ErrArg {
			t.Error(len(image), l, e)
		}
	}
}

// P19.1: the kinds' numbers.
func TestKinds(t *testing.T) {
	kinds := []int{NoSuper, BadBitmap, BadNode, BadOrder, BadChunk, Twice, Missing, Leaked}
	if !slices.Equal(kinds, []int{1, 2, 3, 4, 5, 6, 7, 8}) {
		t.Error(kinds)
	}
}

// P19.1: an image without a superblock that is right: nothing else is looked at.
func TestNoSuper(t *testing.T) {
	none := Defect{NoSuper, 0}
	for _, pages := range []int{8, 9, 64, 511, 512} {
		wantDefects(t, "noughts", make([]byte, pages*256), none)
	}
	s := tall()
	s.turn = []int{5, 40}
	s.entry(6, 0).Crc++
	image := s.image(t)
	for at := 256; at < 512; at++ {
		wantDefects(t, "a bit of it", turned(image, at, at%8), none)
	}
	wantDefects(t, "a page more", append(slices.Clone(image), make([]byte, 256)...), none)
	wantDefects(t, "a page less", image[:63*256], none)
	other := slices.Clone(image)
	copy(other, image[256:512])
	clear(other[256:512])
	wantDefects(t, "at the other place", other, none)
	p := pageAt(t, image, 1)
	p.Gen++
	wantDefects(t, "another generation", laid(t, image, p), none)
	p.Gen--
	p.Kind = page.Leaf
	wantDefects(t, "another kind", laid(t, image, p), none)
	p.Kind = page.Super
	p.Body = p.Body[:14]
	wantDefects(t, "no super", laid(t, image, p), none)
}

// P19.1: of two superblocks the one of the greater generation counts; of one that can't be read the other one.
func TestNewest(t *testing.T) {
	s := tall()
	image := s.image(t)
	wantDefects(t, "one", image)
	next := s.super
	next.Gen, next.Bitmap, next.Root.Addr, next.Root.Height = 2, 50, 5, 2
	d := loaded(t, image)
	want(t, "super", super.Write(crc.New(), d, next), api.OK)
	want(t, "Flush", d.Flush(), api.OK)
	both := d.Image()
	wantDefects(t, "no bitmap", both, Defect{BadBitmap, 50})
	for at := range 256 {
		wantDefects(t, "the older one counts", turned(both, at, at%8))
	}
	m := bitmap.New(64)
	for _, addr := range append(pagesOf(s, 5), 50) {
		m.Used[addr] = true
	}
	both = laid(t, both, page.Page{Kind: page.Bitmap, Addr: 50, Gen: 2, Body: bitmap.Put(m)})
	wantDefects(t, "a part of the tree", both)
	for at := range 256 {
		wantDefects(t, "the older one doesn't count", turned(both, 256+at, at%8))
	}
}

// P19.1: a bitmap that can't be read, or is of another number of pages: nothing else is looked at.
func TestBadBitmap(t *testing.T) {
	s := tall()
	s.entry(6, 0).Crc++
	s.nodes[4].Kids[1] = 64
	s.super.Bitmap = 33
	image := s.image(t)
	bad := Defect{BadBitmap, 33}
	for at := 33 * 256; at < 34*256; at++ {
		wantDefects(t, "a bit of it", turned(image, at, at%8), bad)
	}
	right := pageAt(t, image, 33)
	for _, kind := range []byte{page.Leaf, page.Inner, page.Super} {
		p := right
		p.Kind = kind
		wantDefects(t, "another kind", laid(t, image, p), bad)
	}
	p := right
	p.Addr = 34
	other := laid(t, image, p)
	copy(other[33*256:], other[34*256:35*256])
	wantDefects(t, "another page's", other, bad)
	for _, pages := range []int{8, 63, 65, 512} {
		p := right
		p.Body = bitmap.Put(bitmap.New(pages))
		wantDefects(t, "of other pages", laid(t, image, p), bad)
	}
	for what, change := range map[string]func(b []byte) []byte{
		"no byte":                   func(b []byte) []byte { return nil },
		"a byte less":               func(b []byte) []byte { return b[:len(b)-1] },
		"a byte more":               func(b []byte) []byte { return append(b, 0) },
		"a superblock isn't in use": func(b []byte) []byte { b[2] &^= 2; return b },
	} {
		p := right
		p.Body = change(slices.Clone(right.Body))
		wantDefects(t, what, laid(t, image, p), bad)
	}
	if l, _ := Check(image); len(l) < 3 || l[0].Kind == BadBitmap {
		t.Error(l)
	}
}

// P19.1: nothing is wrong.
func TestSound(t *testing.T) {
	wantDefects(t, "tall", tall().image(t))
	for _, pages := range []int{8, 9, 64, 511, 512} {
		wantDefects(t, "empty", empty(pages).image(t))
		s := empty(pages)
		s.leaf(pages-1, s.chunk(3, 0, least, 1, 0))
		wantDefects(t, "one chunk", s.root(pages-1, 1).image(t))
		s = empty(pages)
		s.leaf(3, s.chunk(pages-2, 0, most-90, 20, 0))
		wantDefects(t, "up to the end", s.root(3, 1).image(t))
		s = empty(pages)
		s.super.Bitmap, s.super.Gen = pages-1, math.MaxUint64
		wantDefects(t, "the last generation", s.image(t))
	}
	// A tree five high, with one node at each height.
	s := empty(16)
	s.leaf(3, s.chunk(9, 5, 0, 3, 6))
	for addr := 4; addr < 8; addr++ {
		s.inner(addr, addr-1)
	}
	wantDefects(t, "five high", s.root(7, 5).image(t))
	// Sixteen leaves of seven entries each, and as many chunks.
	s = empty(200)
	var kids []int
	for k := range 16 {
		var l []node.Entry
		for i := range 7 {
			l = append(l, s.chunk(30+7*k+i, 4, int64(10*(7*k+i)), 1+i%3, 7*k%16))
		}
		s.leaf(4+k, l...)
		kids = append(kids, 4+k)
	}
	s.inner(3, kids...)
	wantDefects(t, "wide", s.root(3, 2).image(t))
}

// P19.1: a node that can't be read: what is beneath it is told of by nothing.
func TestBadNode(t *testing.T) {
	s := tall()
	image := s.image(t)
	for addr, n := range s.nodes {
		var bodies [][]byte
		right := pageAt(t, image, addr)
		should := append(all(BadNode, addr), all(Leaked, pagesOf(s, addr)[1:]...)...)
		for at := 0; at < 256; at += 3 {
			wantDefects(t, "a bit of it", turned(image, addr*256+at, at%8), should...)
		}
		for _, kind := range []byte{page.Leaf, page.Inner, page.Super, page.Bitmap} {
			p := right
			p.Kind = kind
			if kind != right.Kind {
				wantDefects(t, "another kind", laid(t, image, p), should...)
			}
		}
		other := slices.Clone(image)
		for _, from := range []int{3, 4, 5, 6, 7, 8, 9} {
			if from != addr {
				copy(other[addr*256:], image[from*256:(from+1)*256])
				wantDefects(t, "another one's page", other, should...)
			}
		}
		b := right.Body
		bodies = append(bodies, nil, []byte{0}, b[:len(b)-1], append(slices.Clone(b), 0))
		if n.Leaf {
			inner, _ := node.Put(s.nodes[3])
			long := slices.Clone(b)
			long[5], long[13] = 99, 98 // Start is far, and End isn't
			bodies = append(bodies, inner, long)
		} else {
			leaf, _ := node.Put(s.nodes[6])
			last := slices.Clone(b)
			last[13], last[14] = 0, 1 // a child that stands where superblocks do
			bodies = append(bodies, leaf, last)
		}
		for _, body := range bodies {
			p := right
			p.Body = body
			wantDefects(t, "no node", laid(t, image, p), should...)
		}
		// The generation that a node's page tells is nothing that is looked at.
		p := right
		p.Gen = 77
		wantDefects(t, "another generation", laid(t, image, p))
	}
}

// P19.1: a page that is of the wrong height.
func TestHeight(t *testing.T) {
	s := tall()
	for height := 1; height <= 5; height++ {
		s.super.Root.Height = height
		var should []Defect
		switch {
		case height < 3:
			should = append(all(BadNode, 3), all(Leaked, pagesOf(s, 3)[1:]...)...)
			if height == 2 {
				should = append(all(BadNode, 4, 5), all(Leaked, append(pagesOf(s, 4)[1:], pagesOf(s, 5)[1:]...)...)...)
			}
		case height > 3:
			should = append(all(BadNode, 6, 7, 8, 9), all(Leaked, slices.Concat(pagesOf(s, 6)[1:], pagesOf(s, 7)[1:], pagesOf(s, 8)[1:], pagesOf(s, 9)[1:])...)...)
		}
		wantDefects(t, "height", s.image(t), should...)
	}
	s.super.Root.Height, s.super.Root.Addr = 0, 0
	wantDefects(t, "no tree", s.image(t), all(Leaked, pagesOf(s, 3)...)...)
}

// P19.1: a node that tells of pages beyond the image is BadNode; what lies within is gone into.
func TestBeyond(t *testing.T) {
	for _, beyond := range []int{64, 65, 300, 511} {
		s := tall()
		s.nodes[4].Kids[1] = beyond
		wantDefects(t, "a leaf", s.image(t), append(all(BadNode, 4), all(Leaked, pagesOf(tall(), 7)...)...)...)
		s = tall()
		s.nodes[3].Kids[0] = beyond
		wantDefects(t, "an inner node", s.image(t), append(all(BadNode, 3), all(Leaked, pagesOf(tall(), 4)...)...)...)
		s = tall()
		s.nodes[5].Kids[0], s.nodes[5].Kids[1] = beyond, 64+(beyond+1)%3
		if beyond < 66 {
			wantDefects(t, "both", s.image(t), append(all(BadNode, 5), all(Leaked, append(pagesOf(tall(), 8), pagesOf(tall(), 9)...)...)...)...)
		}
		s = tall()
		s.nodes[3].Kids[0] = beyond
		s.entry(9, 1).Crc++
		wantDefects(t, "and what lies within", s.image(t), slices.Concat(all(BadNode, 3), all(BadChunk, 29), all(Leaked, pagesOf(tall(), 4)...))...)
		s = tall()
		s.entry(7, 0).Addr = beyond
		wantDefects(t, "a chunk", s.image(t), append(all(BadNode, 7), all(Leaked, 24)...)...)
		s = tall()
		s.entry(7, 0).Addr, s.entry(7, 1).Addr = beyond, beyond
		wantDefects(t, "two chunks", s.image(t), append(all(BadNode, 7), all(Leaked, 24, 25)...)...)
	}
	// A chunk of which a part lies within isn't there: none of its pages is told of.
	for addr := 62; addr < 64; addr++ {
		s := tall()
		s.entry(6, 1).Addr = addr
		wantDefects(t, "a part", s.image(t), append(all(BadNode, 6), all(Leaked, 21, 22, 23)...)...)
	}
	s := tall()
	x := s.chunk(61, 1, 100, 40, 0)
	*s.entry(6, 1) = x
	delete(s.bytes, 21)
	wantDefects(t, "up to the last page", s.image(t))
	// Its entry stands in the order still.
	s = tall()
	s.entry(7, 1).Addr = 64
	s.entry(7, 1).Key.Start, s.entry(7, 1).End = 200, 200
	wantDefects(t, "an entry ahead", s.image(t), slices.Concat(all(BadNode, 7), all(BadOrder, 8), all(Leaked, 25))...)
}

// P19.1: a node's least key is the one that its parent has for it.
func TestLeastKey(t *testing.T) {
	for _, c := range []struct {
		parent, i int
		key       node.Key
		kid       int
	}{
		{3, 0, node.Key{Series: 1, Start: 1}, 4},
		{3, 0, node.Key{Series: 0, Start: most}, 4},
		{3, 1, node.Key{Series: 2, Start: 99}, 5},
		{3, 1, node.Key{Series: math.MaxUint32, Start: most}, 5},
		{4, 1, node.Key{Series: 1, Start: 301}, 7},
		{5, 1, node.Key{Series: 3, Start: -1}, 9},
		{5, 1, node.Key{Series: 4, Start: 0}, 9},
	} {
		s := tall()
		s.nodes[c.parent].Keys[c.i] = c.key
		wantDefects(t, "key", s.image(t), Defect{BadOrder, c.kid})
	}
	// The first key of an inner node is its own least one, too.
	for _, start := range []int64{least, -1, 1} {
		s := tall()
		s.nodes[4].Keys[0].Start = start
		wantDefects(t, "first key", s.image(t), Defect{BadOrder, 4}, Defect{BadOrder, 6})
		s.nodes[3].Keys[0].Start = start
		wantDefects(t, "first keys", s.image(t), Defect{BadOrder, 6})
	}
	// A root has no parent.
	s := tall()
	s.nodes[3].Keys[0].Start++
	s.nodes[4].Keys[0].Start++
	s.entry(6, 0).Key.Start++
	wantDefects(t, "root", s.image(t), Defect{BadChunk, 20})
}

// order is a tree of leaves 10, 11 and so on, with an entry each, of these series, from and to these times. Keys have to rise in one node, so that each leaf has a parent of its own, 40, 41 and so on, and the root has other keys for those.
func order(t *testing.T, l ...[3]int64) []byte {
	t.Helper()
	s := empty(64)
	n := node.Node{}
	for i, x := range l {
		s.leaf(10+i, s.chunk(30+i, int(x[0]), x[1], 1+int((x[2]-x[1])/3), 6))
		s.inner(40+i, 10+i)
		n.Kids = append(n.Kids, 40+i)
		n.Keys = append(n.Keys, node.Key{Series: 7 + i})
	}
	s.nodes[3] = n
	return s.root(3, 3).image(t)
}

// P19.1: an entry is above the one ahead of it in the whole tree, and their spans don't meet.
func TestOrder(t *testing.T) {
	for _, c := range []struct {
		l   [][3]int64
		bad []int // which leaves aren't behind the one ahead
	}{
		{[][3]int64{{1, 0, 3}, {1, 4, 4}}, nil},
		{[][3]int64{{1, 0, 3}, {1, 3, 3}}, []int{1}},
		{[][3]int64{{1, 0, 9}, {1, 3, 6}}, []int{1}},
		{[][3]int64{{1, 0, 9}, {1, 9, 12}}, []int{1}},
		{[][3]int64{{1, 0, 9}, {1, 0, 9}}, []int{1}},
		{[][3]int64{{1, 0, 0}, {1, 0, 0}}, []int{1}},
		{[][3]int64{{1, 5, 5}, {1, 2, 2}}, []int{1}},
		{[][3]int64{{1, 0, 9}, {2, 0, 9}}, nil},
		{[][3]int64{{1, 0, 9}, {2, -90, -90}}, nil},
		{[][3]int64{{2, 0, 0}, {1, 50, 53}}, []int{1}},
		{[][3]int64{{1, 5, 5}, {1, 3, 3}, {1, 4, 4}}, []int{1}},
		{[][3]int64{{1, 5, 5}, {1, 3, 3}, {1, 5, 5}}, []int{1}},
		{[][3]int64{{1, 0, 60}, {2, 0, 0}, {1, 30, 30}}, []int{2}},
		{[][3]int64{{1, 0, 60}, {1, 30, 33}, {1, 40, 40}}, []int{1}},
		{[][3]int64{{3, 0, 0}, {2, 0, 0}, {1, 0, 0}, {4, 0, 0}}, []int{1, 2}},
		{[][3]int64{{1, least, least}, {1, most, most}}, nil},
		{[][3]int64{{1, most, most}, {1, least, least}}, []int{1}},
	} {
		image := order(t, c.l...)
		should := all(BadOrder)
		for _, i := range c.bad {
			should = append(should, Defect{BadOrder, 10 + i})
		}
		for i := range c.l {
			should = append(should, Defect{BadOrder, 40 + i})
		}
		wantDefects(t, "order", image, should...)
	}
}

// P19.1: a chunk's bytes, and what its entry says of them.
func TestBadChunk(t *testing.T) {
	s := tall()
	image := s.image(t)
	for _, leaf := range []int{6, 7, 8, 9} {
		for i := range s.nodes[leaf].Entries {
			x := *s.entry(leaf, i)
			bad := Defect{BadChunk, x.Addr}
			for at := range x.Len {
				wantDefects(t, "a bit of it", turned(image, x.Addr*256+at, at%8), bad)
			}
			for at := x.Len; at%256 != 0; at++ {
				wantDefects(t, "a bit behind it", turned(image, x.Addr*256+at, at%8))
			}
			for what, change := range map[string]func(x *node.Entry){
				"sum":       func(x *node.Entry) { x.Crc ^= 1 << 31 },
				"codec":     func(x *node.Entry) { x.Codec = (x.Codec + 1) % 16 },
				"count":     func(x *node.Entry) { x.Count++ },
				"end":       func(x *node.Entry) { x.End++ },
				"less":      func(x *node.Entry) { x.Len--; s.sum(x, image) },
				"more":      func(x *node.Entry) { x.Len++; s.sum(x, image) },
				"less, sum": func(x *node.Entry) { x.Len-- },
			} {
				s := tall()
				change(s.entry(leaf, i))
				wantDefects(t, what, s.image(t), bad)
			}
			s := tall()
			s.entry(leaf, i).Key.Start--
			fixKeys(s)
			wantDefects(t, "start", s.image(t), bad)
		}
	}
}

// fixKeys lets all keys of tall be those of the leaves.
func fixKeys(s *sketch) {
	s.inner(4, 6, 7)
	s.inner(5, 8, 9)
	s.inner(3, 4, 5)
}

// P19.1: bytes that have the sum, and are a right chunk, but another one than the entry says.
func TestOtherChunk(t *testing.T) {
	l := samples(9, 50)
	for what, c := range map[string]struct {
		l     []api.Sample
		codec int
		bad   bool
	}{
		"itself":           {l, 5, false},
		"another codec":    {l, 4, true},
		"one more behind":  {samples(10, 50), 5, true},
		"one less":         {l[:8], 5, true},
		"one less at last": {append(slices.Clone(l[:7]), l[8]), 5, true},
		"other times":      {samples(9, 51), 5, true},
		"another first":    {append([]api.Sample{{At: 49}}, l[1:]...), 5, true},
		"another last":     {append(slices.Clone(l[:8]), api.Sample{At: 75}), 5, true},
		"other values":     {append([]api.Sample{{At: 50, Val: 9}}, l[1:]...), 5, false},
	} {
		s := tall()
		was := s.chunk(29, 3, 50, 9, 5)
		b, e := chunk.Encode(c.l, c.codec)
		want(t, "Encode", e, api.OK)
		if len(b) > 256 {
			t.Fatal(len(b))
		}
		s.bytes[29] = b
		was.Len, was.Crc = len(b), crc.Sum(crc.New(), b)
		*s.entry(9, 1) = was
		if c.bad {
			wantDefects(t, what, s.image(t), Defect{BadChunk, 29})
		} else {
			wantDefects(t, what, s.image(t))
		}
	}
	// Bytes that are no chunk's, and have the sum.
	for _, b := range [][]byte{{0}, {0, 0}, {5, 0, 0}, {16, 0, 1, 0, 0}, {6, 0, 2, 0x14, 3, 2}, {6, 0, 2, 0x14, 0, 2, 7}, make([]byte, 256)} {
		s := tall()
		s.bytes[29] = b
		s.entry(9, 1).Len, s.entry(9, 1).Crc = len(b), crc.Sum(crc.New(), b)
		// The entry's chunk had two pages.
		wantDefects(t, "no chunk", s.image(t), Defect{BadChunk, 29})
	}
}

// P19.1: each page that is told of, and isn't in use; each that is in use, and isn't told of; both.
func TestMissingLeaked(t *testing.T) {
	told := tall().told()
	for addr := 2; addr < 64; addr++ {
		s := tall()
		s.turn = []int{addr}
		kind := Leaked
		if slices.Contains(told, addr) {
			kind = Missing
		}
		wantDefects(t, "one", s.image(t), Defect{kind, addr})
		s.turn = []int{addr, 5 + addr%2, 63 - addr%5}
		missing, leaked := []int{5 + addr%2}, []int{63 - addr%5}
		if addr == missing[0] || addr == leaked[0] {
			continue
		}
		if kind == Missing {
			missing = append(missing, addr)
		} else {
			leaked = append(leaked, addr)
		}
		wantDefects(t, "three", s.image(t), append(all(Missing, missing...), all(Leaked, leaked...)...)...)
	}
	s := tall()
	for addr := 2; addr < 64; addr++ {
		s.turn = append(s.turn, addr)
	}
	var free []int
	for addr := range 64 {
		if !slices.Contains(told, addr) {
			free = append(free, addr)
		}
	}
	wantDefects(t, "all", s.image(t), append(all(Missing, told[2:]...), all(Leaked, free...)...)...)
}
