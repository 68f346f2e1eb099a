package node

import (
	"bytes"
	"encoding/binary"
	"math"
	"math/rand/v2"
	"reflect"
	"slices"
	"testing"

	"rick/api"
)

const least, most = math.MinInt64, math.MaxInt64

// plain is an entry of series 1 that may be, from one time to another.
func plain(start, end int64) Entry {
	return Entry{Key: Key{1, start}, End: end, Addr: 5, Len: 1, Count: 1}
}

// leaf is n entries, of 10 times each.
func leaf(n int) Node {
	a := Node{Leaf: true}
	for i := range n {
		a.Entries = append(a.Entries, plain(int64(10*i), int64(10*i+9)))
	}
	return a
}

// inner is n children.
func inner(n int) Node {
	var a Node
	for i := range n {
		a.Keys = append(a.Keys, Key{1, int64(10 * i)})
		a.Kids = append(a.Kids, 500-i)
	}
	return a
}

// some is a node that is Right, of any shape.
func some(r *rand.Rand) Node {
	if r.IntN(2) == 0 {
		a := Node{}
		kids := r.Perm(510)
		for i, k := range someKeys(r, 1+r.IntN(16)) {
			a.Keys = append(a.Keys, k)
			a.Kids = append(a.Kids, kids[i]+2)
		}
		return a
	}
	a := Node{Leaf: true}
	keys := someKeys(r, 1+r.IntN(7))
	for i, k := range keys {
		e := Entry{Key: k, End: most, Len: 1 + r.IntN(65535), Count: 1 + r.IntN(200), Codec: r.IntN(16), Crc: r.Uint32()}
		if i+1 < len(keys) && keys[i+1].Series == k.Series {
			e.End = keys[i+1].Start - 1
		}
		if room := uint64(e.End) - uint64(k.Start); room > 0 && r.IntN(2) == 0 {
			e.End = k.Start + int64(r.Uint64N(room))
		}
		e.Addr = 2 + r.IntN(511-(e.Len+255)/256)
		a.Entries = append(a.Entries, e)
	}
	return a
}

// someKeys is n keys that rise.
func someKeys(r *rand.Rand, n int) []Key {
	seen := map[Key]bool{}
	for len(seen) < n {
		k := Key{[]int{0, 1, 255, 256, math.MaxUint32, int(r.Uint32())}[r.IntN(6)], int64(r.Uint64() >> r.IntN(64))}
		if r.IntN(2) == 0 {
			k.Start = -k.Start
		}
		seen[k] = true
	}
	var l []Key
	for k := range seen {
		l = append(l, k)
	}
	slices.SortFunc(l, func(a, b Key) int {
		if a.Series != b.Series {
			return a.Series - b.Series
		}
		if a.Start < b.Start {
			return -1
		}
		return 1
	})
	return l
}

// model is the chapter's Put of a node that is Right.
func model(n Node) []byte {
	b := []byte{byte(len(n.Entries) + len(n.Kids))}
	u16, u32, u64 := binary.BigEndian.AppendUint16, binary.BigEndian.AppendUint32, binary.BigEndian.AppendUint64
	for _, e := range n.Entries {
		b = u64(u64(u32(b, uint32(e.Key.Series)), uint64(e.Key.Start)), uint64(e.End))
		b = u16(u16(b, uint16(e.Addr)), uint16(e.Len))
		b = u32(append(b, byte(e.Count), byte(e.Codec)), e.Crc)
	}
	for i, k := range n.Keys {
		b = u16(u64(u32(b, uint32(k.Series)), uint64(k.Start)), uint16(n.Kids[i]))
	}
	return b
}

// alike tells whether two nodes have the same in them; nil and empty lists are one.
func alike(a, b Node) bool {
	return a.Leaf == b.Leaf && slices.Equal(a.Entries, b.Entries) && slices.Equal(a.Keys, b.Keys) && slices.Equal(a.Kids, b.Kids)
}

func copied(n Node) Node {
	return Node{n.Leaf, slices.Clone(n.Entries), slices.Clone(n.Keys), slices.Clone(n.Kids)}
}

// checkRight looks whether a node is Right, and put and got again, or refused.
func checkRight(t *testing.T, what string, n Node, should bool) {
	t.Helper()
	b, e := Put(n)
	if !should {
		if Right(n) || len(b) != 0 || e != api.ErrArg {
			t.Errorf("%s: %v: %v, %x, %d", what, n, Right(n), b, e)
		}
		return
	}
	if !Right(n) || e != api.OK || !bytes.Equal(b, model(n)) {
		t.Fatalf("%s: %v: %v, %x, %d", what, n, Right(n), b, e)
	}
	if m, e := Get(n.Leaf, b); e != api.OK || !alike(m, n) {
		t.Errorf("%s: %v: %v, %d", what, n, m, e)
	}
	refused(t, what, !n.Leaf, b)
}

func refused(t *testing.T, what string, isLeaf bool, b []byte) {
	t.Helper()
	if n, e := Get(isLeaf, b); e != api.ErrForm || !reflect.DeepEqual(n, Node{}) {
		t.Errorf("%s: %v of %x: %v, %d", what, isLeaf, b, n, e)
	}
}

// P12.1: which key is ahead.
func TestLess(t *testing.T) {
	l := []Key{{math.MinInt, most}, {-1, 0}, {0, least}, {0, -1}, {0, 0}, {0, most}, {1, least}, {1, 5}, {math.MaxUint32, -7}, {math.MaxInt, least}}
	for i, a := range l {
		for j, b := range l {
			if Less(a, b) != (i < j) {
				t.Error(a, b)
			}
		}
	}
}

// P12.1: how many pages so many bytes take.
func TestPages(t *testing.T) {
	for _, c := range []struct{ size, should int }{
		{0, 0}, {1, 1}, {255, 1}, {256, 1}, {257, 2}, {512, 2}, {513, 3}, {65535, 256}, {65536, 256}, {65537, 257},
	} {
		if n := Pages(Entry{Len: c.size}); n != c.should {
			t.Errorf("%d: %d, not %d", c.size, n, c.should)
		}
	}
	for _, size := range []int{math.MinInt, -1, math.MaxInt} {
		Pages(Entry{Len: size})
	}
}

// P12.1: each part of an entry may be from its least to its greatest, and not beyond.
func TestEntry(t *testing.T) {
	for _, c := range []struct {
		what   string
		change func(e *Entry)
		should bool
	}{
		{"nothing changed", func(e *Entry) {}, true},
		{"series", func(e *Entry) { e.Key.Series = 0 }, true},
		{"series", func(e *Entry) { e.Key.Series = math.MaxUint32 }, true},
		{"series", func(e *Entry) { e.Key.Series = -1 }, false},
		{"series", func(e *Entry) { e.Key.Series = math.MinInt }, false},
		{"series", func(e *Entry) { e.Key.Series = math.MaxUint32 + 1 }, false},
		{"series", func(e *Entry) { e.Key.Series = math.MaxInt }, false},
		{"end", func(e *Entry) { e.End = 10 }, true},
		{"end", func(e *Entry) { e.End = most }, true},
		{"end", func(e *Entry) { e.End = 9 }, false},
		{"end", func(e *Entry) { e.End = least }, false},
		{"span", func(e *Entry) { e.Key.Start, e.End = least, least }, true},
		{"span", func(e *Entry) { e.Key.Start, e.End = least, most }, true},
		{"span", func(e *Entry) { e.Key.Start, e.End = most, most }, true},
		{"span", func(e *Entry) { e.Key.Start, e.End = most, least }, false},
		{"addr", func(e *Entry) { e.Addr = 2 }, true},
		{"addr", func(e *Entry) { e.Addr = 511 }, true},
		{"addr", func(e *Entry) { e.Addr = 1 }, false},
		{"addr", func(e *Entry) { e.Addr = 0 }, false},
		{"addr", func(e *Entry) { e.Addr = -1 }, false},
		{"addr", func(e *Entry) { e.Addr = 512 }, false},
		{"addr", func(e *Entry) { e.Addr = math.MinInt }, false},
		{"addr", func(e *Entry) { e.Addr = math.MaxInt }, false},
		{"len", func(e *Entry) { e.Len = 65535 }, true},
		{"len", func(e *Entry) { e.Len = 0 }, false},
		{"len", func(e *Entry) { e.Len = -1 }, false},
		{"len", func(e *Entry) { e.Len = 65536 }, false},
		{"len", func(e *Entry) { e.Len = math.MinInt }, false},
		{"len", func(e *Entry) { e.Len = math.MaxInt }, false},
		{"pages", func(e *Entry) { e.Addr, e.Len = 511, 256 }, true},
		{"pages", func(e *Entry) { e.Addr, e.Len = 511, 257 }, false},
		{"pages", func(e *Entry) { e.Addr, e.Len = 256, 65535 }, true},
		{"pages", func(e *Entry) { e.Addr, e.Len = 257, 65535 }, false},
		{"pages", func(e *Entry) { e.Addr, e.Len = 257, 65281 }, false},
		{"pages", func(e *Entry) { e.Addr, e.Len = 257, 65280 }, true},
		{"pages", func(e *Entry) { e.Addr, e.Len = 2, 65536 }, false},
		{"count", func(e *Entry) { e.Count = 200 }, true},
		{"count", func(e *Entry) { e.Count = 0 }, false},
		{"count", func(e *Entry) { e.Count = 201 }, false},
		{"count", func(e *Entry) { e.Count = -1 }, false},
		{"count", func(e *Entry) { e.Count = 257 }, false},
		{"codec", func(e *Entry) { e.Codec = 15 }, true},
		{"codec", func(e *Entry) { e.Codec = 16 }, false},
		{"codec", func(e *Entry) { e.Codec = -1 }, false},
		{"codec", func(e *Entry) { e.Codec = 256 }, false},
		{"crc", func(e *Entry) { e.Crc = math.MaxUint32 }, true},
	} {
		e := plain(10, 19)
		c.change(&e)
		n := Node{Leaf: true, Entries: []Entry{e}}
		checkRight(t, c.what, n, c.should)
		ahead, behind := plain(least, least), plain(most, most)
		ahead.Key.Series, behind.Key.Series = 0, math.MaxUint32
		if e.Key.Start > least && e.Key.Start < most {
			n.Entries = []Entry{ahead, e, behind}
			checkRight(t, c.what+" between others", n, c.should)
		}
		// Where the bytes have room for all of it, they are refused as well.
		if !c.should && fits(e) {
			refused(t, c.what, true, model(n))
		}
	}
}

// fits tells whether an entry's bytes tell all of it.
func fits(e Entry) bool {
	in := func(n, most int) bool { return n >= 0 && n <= most }
	return in(e.Key.Series, math.MaxUint32) && in(e.Addr, 65535) && in(e.Len, 65535) && in(e.Count, 255) && in(e.Codec, 255)
}

// P12.1: how many a node may have.
func TestSizes(t *testing.T) {
	for n := range 20 {
		checkRight(t, "entries", leaf(n), n >= 1 && n <= 7)
		checkRight(t, "children", inner(n), n >= 1 && n <= 16)
		if Size(leaf(n)) != n || Size(inner(n)) != n {
			t.Error(n)
		}
	}
	refused(t, "no entry", true, []byte{0})
	refused(t, "no child", false, []byte{0})
	refused(t, "8 entries", true, model(leaf(8)))
	refused(t, "17 children", false, model(inner(17)))
	refused(t, "255 entries", true, append([]byte{255}, make([]byte, 30*255)...))
	refused(t, "255 children", false, append([]byte{255}, make([]byte, 14*255)...))
}

// P12.1: the entries' keys rise, and spans of one series don't meet.
func TestEntriesOrder(t *testing.T) {
	of := func(series int, start, end int64) Entry {
		e := plain(start, end)
		e.Key.Series = series
		return e
	}
	for _, c := range []struct {
		what   string
		l      []Entry
		should bool
	}{
		{"side by side", []Entry{of(1, 0, 9), of(1, 10, 19)}, true},
		{"the last time is the first one", []Entry{of(1, 0, 10), of(1, 10, 19)}, false},
		{"meet", []Entry{of(1, 0, 11), of(1, 10, 19)}, false},
		{"one in the other", []Entry{of(1, 0, 100), of(1, 10, 19)}, false},
		{"the same key", []Entry{of(1, 0, 0), of(1, 0, 0)}, false},
		{"the same key, another end", []Entry{of(1, 0, 5), of(1, 0, 9)}, false},
		{"fall", []Entry{of(1, 10, 19), of(1, 0, 9)}, false},
		{"series fall", []Entry{of(2, 0, 9), of(1, 10, 19)}, false},
		{"another series", []Entry{of(1, 0, 100), of(2, 10, 19)}, true},
		{"another series, the same start", []Entry{of(1, 0, 100), of(2, 0, 100)}, true},
		{"another series, an earlier start", []Entry{of(1, 50, 100), of(2, 0, 60)}, true},
		{"up to the last time", []Entry{of(1, least, most), of(2, least, most), of(3, least, most)}, true},
		{"least and most", []Entry{of(1, least, least), of(1, most, most)}, true},
		{"all times, and the last one", []Entry{of(1, least, most), of(1, most, most)}, false},
		{"wrong at last", []Entry{of(1, 0, 0), of(1, 1, 1), of(1, 2, 3), of(1, 3, 4)}, false},
		{"wrong in between", []Entry{of(1, 0, 0), of(1, 1, 2), of(1, 2, 3), of(1, 4, 4)}, false},
		{"the same series again", []Entry{of(1, 0, 5), of(2, 0, 5), of(1, 6, 7)}, false},
	} {
		n := Node{Leaf: true, Entries: c.l}
		checkRight(t, c.what, n, c.should)
		if !c.should {
			refused(t, c.what, true, model(n))
		}
	}
}

// P12.1: the children's keys can be and rise, and the children are unlike.
func TestChildren(t *testing.T) {
	for _, c := range []struct {
		what   string
		keys   []Key
		kids   []int
		should bool
	}{
		{"plain", []Key{{1, 2}, {1, 3}, {2, 0}}, []int{9, 7, 8}, true},
		{"series", []Key{{0, least}, {math.MaxUint32, most}}, []int{2, 511}, true},
		{"series", []Key{{-1, 0}}, []int{2}, false},
		{"series", []Key{{0, 0}, {math.MaxUint32 + 1, 0}}, []int{2, 3}, false},
		{"the same key", []Key{{1, 2}, {1, 2}}, []int{2, 3}, false},
		{"fall", []Key{{1, 2}, {1, 1}}, []int{2, 3}, false},
		{"series fall", []Key{{2, 1}, {1, 2}}, []int{2, 3}, false},
		{"wrong at last", []Key{{1, 1}, {1, 2}, {1, 2}}, []int{2, 3, 4}, false},
		{"kids", []Key{{1, 1}}, []int{1}, false},
		{"kids", []Key{{1, 1}}, []int{0}, false},
		{"kids", []Key{{1, 1}}, []int{-1}, false},
		{"kids", []Key{{1, 1}}, []int{512}, false},
		{"kids", []Key{{1, 1}}, []int{65536 + 5}, false},
		{"kids", []Key{{1, 1}, {1, 2}}, []int{5, 512}, false},
		{"alike", []Key{{1, 1}, {1, 2}}, []int{5, 5}, false},
		{"alike", []Key{{1, 1}, {1, 2}, {1, 3}, {1, 4}}, []int{5, 6, 7, 5}, false},
		{"fewer keys", []Key{{1, 1}}, []int{5, 6}, false},
		{"fewer kids", []Key{{1, 1}, {1, 2}}, []int{5}, false},
		{"keys alone", []Key{{1, 1}}, nil, false},
		{"kids alone", nil, []int{5}, false},
	} {
		n := Node{Keys: c.keys, Kids: c.kids}
		checkRight(t, c.what, n, c.should)
		if !c.should && len(c.keys) == len(c.kids) && c.keys[0].Series >= 0 && slices.Max(c.kids) <= 65535 && slices.Max(c.kids) >= 0 && c.keys[len(c.keys)-1].Series <= math.MaxUint32 {
			refused(t, c.what, false, model(n))
		}
	}
}

// P12.1: a leaf has no children, another node no entries.
func TestMixed(t *testing.T) {
	a, b := leaf(2), inner(2)
	for _, n := range []Node{
		{true, a.Entries, b.Keys, nil},
		{true, a.Entries, nil, b.Kids},
		{true, a.Entries, b.Keys, b.Kids},
		{true, nil, b.Keys, b.Kids},
		{false, a.Entries, b.Keys, b.Kids},
		{false, a.Entries, nil, nil},
		{true, nil, nil, nil},
		{false, nil, nil, nil},
	} {
		checkRight(t, "mixed", n, false)
	}
	checkRight(t, "empty lists", Node{true, a.Entries, []Key{}, []int{}}, true)
	checkRight(t, "empty lists", Node{false, []Entry{}, b.Keys, b.Kids}, true)
}

// P12.1: the chapter's example, and one of a leaf.
func TestExample(t *testing.T) {
	b, e := Put(Node{Keys: []Key{{1, 2}}, Kids: []int{5}})
	if e != api.OK || !bytes.Equal(b, []byte{1, 0, 0, 0, 1, 0, 0, 0, 0, 0, 0, 0, 2, 0, 5}) {
		t.Errorf("%x, %d", b, e)
	}
	b, e = Put(Node{Leaf: true, Entries: []Entry{{Key{0x01020304, -2}, -1, 0x0102, 0x0304, 5, 6, 0x0708090A}}})
	if e != api.OK || !bytes.Equal(b, []byte{1, 1, 2, 3, 4, 255, 255, 255, 255, 255, 255, 255, 254, 255, 255, 255, 255, 255, 255, 255, 255, 1, 2, 3, 4, 5, 6, 7, 8, 9, 10}) {
		t.Errorf("%x, %d", b, e)
	}
}

// P12.2: of whatever nodes that are Right what is put is got again; cut off at any place, or with a byte more, it is none's.
func TestPutGet(t *testing.T) {
	r := rand.New(rand.NewPCG(12, 1))
	for range 5000 {
		n := some(r)
		checkRight(t, "some", n, true)
		b := model(n)
		at := r.IntN(len(b))
		refused(t, "cut off", n.Leaf, b[:at])
		refused(t, "a byte more", n.Leaf, append(bytes.Clone(b), byte(r.IntN(3))))
	}
	for _, n := range []Node{leaf(1), leaf(7), inner(1), inner(16)} {
		b := model(n)
		for at := range b {
			refused(t, "cut off", n.Leaf, b[:at])
		}
		for more := 1; more < 40; more++ {
			refused(t, "bytes more", n.Leaf, append(bytes.Clone(b), make([]byte, more)...))
		}
		for count := range 256 {
			if count != int(b[0]) {
				refused(t, "another count", n.Leaf, append([]byte{byte(count)}, b[1:]...))
			}
		}
	}
	refused(t, "nothing", true, nil)
	refused(t, "nothing", false, nil)
	refused(t, "nothing", false, []byte{})
}

// P12.1: whatever bytes are a node's are just those to which it is put.
func TestGetAny(t *testing.T) {
	r := rand.New(rand.NewPCG(12, 2))
	rights := 0
	for range 50000 {
		n := some(r)
		b := model(n)
		for range 1 + r.IntN(2) {
			b[r.IntN(len(b))] ^= 1 << r.IntN(8)
		}
		m, e := Get(n.Leaf, b)
		switch {
		case e == api.OK && Right(m) && m.Leaf == n.Leaf && bytes.Equal(model(m), b):
			rights++
		case e != api.ErrForm || !reflect.DeepEqual(m, Node{}):
			t.Fatalf("%x: %v, %d", b, m, e)
		}
	}
	if rights < 1000 {
		t.Error(rights)
	}
}

// P12.1: the first key, of nodes of all kinds.
func TestLeast(t *testing.T) {
	a, b := leaf(3), inner(3)
	a.Entries[0].Key, b.Keys[0] = Key{7, -5}, Key{8, -6}
	for _, c := range []struct {
		n      Node
		should Key
		size   int
	}{
		{a, Key{7, -5}, 3},
		{b, Key{8, -6}, 3},
		{leaf(1), Key{1, 0}, 1},
		{Node{Keys: b.Keys[:1], Kids: b.Kids[:1]}, Key{8, -6}, 1},
		{Node{Leaf: true, Entries: a.Entries[:1]}, Key{7, -5}, 1},
		{Node{}, Key{}, 0},
		{Node{Leaf: true}, Key{}, 0},
		{Node{Leaf: true, Keys: b.Keys, Kids: b.Kids}, Key{}, 0},
		{Node{Entries: a.Entries}, Key{}, 0},
		{Node{true, a.Entries[1:], b.Keys, b.Kids}, Key{1, 10}, 2},
		{Node{false, a.Entries, b.Keys[1:], b.Kids[1:]}, Key{1, 10}, 2},
	} {
		if k := Least(c.n); k != c.should {
			t.Errorf("%v: %v", c.n, k)
		}
		if Size(c.n) != c.size {
			t.Errorf("%v: %d", c.n, Size(c.n))
		}
	}
}

// sizes is how many the parts of a node should have.
func sizes(n, most int) []int {
	if n == 0 {
		return nil
	}
	if n <= most {
		return []int{n}
	}
	return append(sizes(n-n/2, most), sizes(n/2, most)...)
}

// P12.1: parts that have no more than may be, each a half.
func TestSplit(t *testing.T) {
	if !slices.Equal(sizes(9, 7), []int{5, 4}) || !slices.Equal(sizes(15, 7), []int{4, 4, 7}) {
		t.Fatal(sizes(9, 7), sizes(15, 7))
	}
	for n := range 200 {
		checkSplit(t, leaf(n), sizes(n, 7))
		checkSplit(t, inner(n), sizes(n, 16))
	}
	for i, c := range []struct {
		n      Node
		should []int
	}{
		{leaf(7), []int{7}},
		{leaf(8), []int{4, 4}},
		{leaf(9), []int{5, 4}},
		{leaf(14), []int{7, 7}},
		{leaf(15), []int{4, 4, 7}},
		{inner(16), []int{16}},
		{inner(17), []int{9, 8}},
		{inner(18), []int{9, 9}},
		{inner(23), []int{12, 11}},
		{inner(33), []int{9, 8, 16}},
	} {
		var l []int
		for _, part := range Split(c.n) {
			l = append(l, len(part.Entries)+len(part.Kids))
		}
		if !slices.Equal(l, c.should) {
			t.Errorf("%d: %v, not %v", i, l, c.should)
		}
	}
}

func checkSplit(t *testing.T, n Node, should []int) {
	t.Helper()
	parts := Split(n)
	all, l := Node{Leaf: n.Leaf}, []int(nil)
	for _, part := range parts {
		if !Right(part) || part.Leaf != n.Leaf {
			t.Errorf("%v", part)
		}
		l = append(l, Size(part))
		all = Join(all, part)
	}
	if !slices.Equal(l, should) || !alike(all, n) {
		t.Errorf("%v: %v, not %v", n, l, should)
	}
}

// P12.1: nodes that can't be are split and joined as well, with all that they tell.
func TestSplitWrong(t *testing.T) {
	for _, n := range []Node{
		{Keys: inner(3).Keys, Kids: inner(40).Kids},
		{Keys: inner(40).Keys, Kids: inner(17).Kids},
		{Kids: inner(100).Kids},
		{Kids: make([]int, 17)},
		{Leaf: true, Entries: make([]Entry, 9)},
	} {
		checkParts(t, n)
	}
	for _, n := range []Node{
		{},
		{Leaf: true},
		{Keys: inner(40).Keys},
		{Entries: leaf(9).Entries},
		{Leaf: true, Keys: inner(40).Keys, Kids: inner(40).Kids},
		{Leaf: true, Entries: []Entry{}},
		{Keys: []Key{}, Kids: []int{}},
	} {
		if l := Split(n); len(l) != 0 {
			t.Errorf("%v: %v", n, l)
		}
	}
	for _, n := range []Node{{true, leaf(7).Entries, inner(2).Keys, inner(3).Kids}, {false, leaf(7).Entries, inner(2).Keys, inner(3).Kids}} {
		if l := Split(n); len(l) != 1 || !alike(l[0], n) {
			t.Errorf("%v: %v", n, l)
		}
	}
}

// checkParts looks whether the parts of a node are all of it.
func checkParts(t *testing.T, n Node) {
	t.Helper()
	all := Node{Leaf: n.Leaf}
	for _, part := range Split(n) {
		if len(part.Entries) > 7 || len(part.Kids) > 16 {
			t.Errorf("%v", part)
		}
		all = Join(all, part)
	}
	if !alike(all, n) {
		t.Errorf("%v: %v", n, all)
	}
}

// P12.1: two nodes side by side; what the first one is, counts.
func TestJoin(t *testing.T) {
	a, b := leaf(3), inner(2)
	for i, c := range []struct{ a, b, should Node }{
		{Node{Leaf: true, Entries: a.Entries[:1]}, Node{Leaf: true, Entries: a.Entries[1:]}, a},
		{Node{Keys: b.Keys[:1], Kids: b.Kids[:1]}, Node{Keys: b.Keys[1:], Kids: b.Kids[1:]}, b},
		{a, Node{}, a},
		{Node{Leaf: true}, a, a},
		{Node{}, b, b},
		{b, Node{Leaf: true}, b},
		{a, b, a},
		{b, a, b},
		{a, Node{false, a.Entries[:1], b.Keys, b.Kids}, Node{true, append(slices.Clone(a.Entries), a.Entries[0]), nil, nil}},
		{b, Node{true, a.Entries, b.Keys[:1], b.Kids[:1]}, Node{false, nil, append(slices.Clone(b.Keys), b.Keys[0]), append(slices.Clone(b.Kids), b.Kids[0])}},
		{Node{}, Node{}, Node{}},
		{Node{Leaf: true}, Node{}, Node{Leaf: true}},
		{Node{}, a, Node{}},
	} {
		if n := Join(c.a, c.b); !alike(n, c.should) {
			t.Errorf("%d: %v, not %v", i, n, c.should)
		}
	}
	if n := Join(leaf(9), leaf(9)); len(n.Entries) != 18 {
		t.Error(len(n.Entries))
	}
}

// roomy is a node whose lists have room behind them, in which other things stand.
func roomy(n Node) (Node, Node) {
	whole := Node{n.Leaf, slices.Clone(n.Entries), slices.Clone(n.Keys), slices.Clone(n.Kids)}
	for range 5 {
		whole.Entries = append(whole.Entries, plain(1, 2))
		whole.Keys = append(whole.Keys, Key{3, 4})
		whole.Kids = append(whole.Kids, 77)
	}
	part := Node{n.Leaf, whole.Entries[:len(n.Entries)], whole.Keys[:len(n.Keys)], whole.Kids[:len(n.Kids)]}
	return part, whole
}

// fill changes all that a node's lists and their spare room hold.
func fill(n Node) {
	for i := range n.Entries[:cap(n.Entries)] {
		n.Entries[:cap(n.Entries)][i] = Entry{Crc: 99}
	}
	for i := range n.Keys[:cap(n.Keys)] {
		n.Keys[:cap(n.Keys)][i] = Key{9, 9}
	}
	for i := range n.Kids[:cap(n.Kids)] {
		n.Kids[:cap(n.Kids)][i] = 9
	}
}

// P12.3: nodes that are handed in aren't changed, their spare room neither, and no answer shares memory with them or with another part of itself.
func TestMemory(t *testing.T) {
	for _, n := range []Node{leaf(1), leaf(7), leaf(8), leaf(20), inner(1), inner(16), inner(17), inner(50)} {
		part, whole := roomy(n)
		before := copied(whole)
		Right(part)
		Put(part)
		Least(part)
		parts := Split(part)
		twice := Join(part, part)
		if !alike(whole, before) {
			t.Fatalf("%v was changed", n)
		}
		fill(whole)
		at := 0
		for i := range parts {
			should := Node{Leaf: n.Leaf}
			if n.Leaf {
				should.Entries = n.Entries[at : at+Size(parts[i])]
			} else {
				should.Keys, should.Kids = n.Keys[at:at+Size(parts[i])], n.Kids[at:at+Size(parts[i])]
			}
			if !alike(parts[i], should) {
				t.Errorf("%v: part %d is kept", n, i)
			}
			at += Size(parts[i])
			fill(parts[i])
		}
		if !alike(twice, Join(n, n)) || Size(twice) != 2*Size(n) {
			t.Errorf("%v: Join is kept", n)
		}
	}
	for _, n := range []Node{leaf(7), inner(16)} {
		room := append(model(n), 1, 2, 3)
		b := room[:len(room)-3]
		m, _ := Get(n.Leaf, b)
		if !bytes.Equal(room, append(model(n), 1, 2, 3)) {
			t.Error("the bytes were changed")
		}
		clear(room)
		if !alike(m, n) {
			t.Error("the bytes are kept")
		}
		c, _ := Put(n)
		clear(c)
		if c, _ = Put(n); !bytes.Equal(c, model(n)) || !alike(n, m) {
			t.Error("Put keeps")
		}
	}
	a, aWhole := roomy(leaf(2))
	before := copied(aWhole)
	j := Join(a, Node{Leaf: true})
	k := Join(Node{Leaf: true}, a)
	fill(j)
	fill(k)
	if !alike(aWhole, before) {
		t.Error("Join shares")
	}
}
