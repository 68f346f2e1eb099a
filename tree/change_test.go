package tree

import (
	"math"
	"math/rand/v2"
	"slices"
	"testing"

	"rick/api"
	"rick/bitmap"
	"rick/disk"
	"rick/node"
)

// P13.1: the first leaf's split, and others, till the root is split and the tree grows.
func TestGrow(t *testing.T) {
	v := fresh(t, 200)
	base := v.Map()
	r := insert(t, v, Root{}, run(0, 7)...)
	checkShape(t, v, base, r, run(0, 7), [][]int{{7}})
	r = insert(t, v, r, at(7))
	checkShape(t, v, base, r, run(0, 8), [][]int{{2}, {4, 4}})
	r = insert(t, v, r, run(8, 3)...)
	checkShape(t, v, base, r, run(0, 11), [][]int{{2}, {4, 7}})
	r = insert(t, v, r, at(11))
	checkShape(t, v, base, r, run(0, 12), [][]int{{3}, {4, 4, 4}})
	r = insert(t, v, r, run(12, 55)...)
	checkShape(t, v, base, r, run(0, 67), [][]int{{16}, append(times(4, 15), 7)})
	r = insert(t, v, r, at(67))
	checkShape(t, v, base, r, run(0, 68), [][]int{{2}, {9, 8}, times(4, 17)})
	r = insert(t, v, r, at(68))
	checkShape(t, v, base, r, run(0, 69), [][]int{{2}, {9, 8}, append(times(4, 16), 5)})
}

// P13.1: the same, by entries that fall: each is the least one then, and all nodes above tell it.
func TestGrowDown(t *testing.T) {
	v := fresh(t, 200)
	base := v.Map()
	var r Root
	for k := 149; k >= 0; k-- {
		r = insert(t, v, r, at(k))
		check(t, v, base, r, run(k, 150-k))
		checkLeast(t, v, r)
	}
	if r.Height != 3 {
		t.Error(r)
	}
	for k := range 150 {
		r = remove(t, v, r, at(k))
		check(t, v, base, r, run(k+1, 149-k))
		checkLeast(t, v, r)
	}
	if r != (Root{}) {
		t.Error(r)
	}
}

// P13.1: each way in which a leaf is joined with its neighbour.
func TestJoinLeaves(t *testing.T) {
	for _, c := range []struct {
		what   string
		l      int // entries that are loaded
		from   int // the first that is deleted
		n      int // how many are
		should [][]int
	}{
		{"not too few", 14, 0, 4, [][]int{{2}, {3, 7}}},
		{"with the one behind, and split", 14, 0, 5, [][]int{{2}, {5, 4}}},
		{"the middle one with the one behind", 21, 7, 5, [][]int{{3}, {7, 5, 4}}},
		{"the last one with the one ahead, and split", 21, 14, 5, [][]int{{3}, {7, 5, 4}}},
		{"with the one behind, to one", 12, 0, 5, [][]int{{7}}},
		{"with the one ahead, to one", 17, 14, 1, [][]int{{3}, {7, 5, 4}}},
		{"eight are split", 13, 0, 5, [][]int{{2}, {4, 4}}},
		{"to one of three", 19, 7, 5, [][]int{{2}, {7, 7}}},
		{"the root goes", 8, 7, 1, [][]int{{7}}},
		{"the root stays", 9, 8, 1, [][]int{{2}, {4, 4}}},
		{"all of a leaf", 8, 0, 7, [][]int{{1}}},
	} {
		v := fresh(t, 100)
		base := v.Map()
		r := load(t, v, run(0, c.l))
		r = remove(t, v, r, run(c.from, c.n)...)
		left := append(run(0, c.from), run(c.from+c.n, c.l-c.from-c.n)...)
		t.Log(c.what)
		checkShape(t, v, base, r, left, c.should)
	}
}

// P13.1: each way in which an inner node is joined with its neighbour.
func TestJoinInner(t *testing.T) {
	eight, nine := times(3, 8), times(3, 9)
	for _, c := range []struct {
		what   string
		sizes  [][]int
		gone   int // the entry that is deleted
		should [][]int
	}{
		{"not too few", [][]int{nine, eight}, 0, [][]int{{2}, {8, 8}, append([]int{5}, times(3, 15)...)}},
		{"with the one behind, and split", [][]int{eight, times(3, 16)}, 0, [][]int{{2}, {12, 11}, append([]int{5}, times(3, 22)...)}},
		{"with the one behind, to one: the root goes", [][]int{eight, nine}, 0, [][]int{{16}, append([]int{5}, times(3, 15)...)}},
		{"with the one behind, one too many", [][]int{eight, times(3, 10)}, 0, [][]int{{2}, {9, 8}, append([]int{5}, times(3, 16)...)}},
		{"the last one with the one ahead: the root goes", [][]int{nine, eight}, 27, [][]int{{16}, append(append(times(3, 9), 5), times(3, 6)...)}},
		{"the last one with the one ahead, and split", [][]int{times(3, 16), eight}, 48, [][]int{{2}, {12, 11}, append(append(times(3, 16), 5), times(3, 6)...)}},
		{"the middle one with the one behind", [][]int{nine, eight, eight}, 27, [][]int{{2}, {9, 15}, append(append(times(3, 9), 5), times(3, 14)...)}},
		{"a leaf of its own is the neighbour, not one beside", [][]int{nine, nine}, 26, [][]int{{2}, {8, 9}, append(append(times(3, 7), 5), times(3, 9)...)}},
	} {
		v := fresh(t, 100)
		base := v.Map()
		r, l := grow(t, v, c.sizes)
		r = remove(t, v, r, at(c.gone))
		t.Log(c.what)
		checkShape(t, v, base, r, slices.Delete(l, c.gone, c.gone+1), c.should)
	}
}

// P13.1: just the nodes on the way, and those that are joined, are written anew; an inner root with one child isn't written.
func TestWritten(t *testing.T) {
	for _, c := range []struct {
		what  string
		sizes [][]int
		gone  int
		nodes int
	}{
		{"the way", [][]int{times(4, 9), times(4, 9)}, 5, 3},
		{"leaves joined to one", [][]int{times(3, 9), times(3, 9)}, 5, 3},
		{"leaves joined and split", [][]int{append([]int{3}, times(7, 8)...), times(3, 9)}, 0, 4},
		{"inner nodes joined, the root goes", [][]int{times(3, 8), times(3, 8)}, 0, 2},
		{"inner nodes joined and split", [][]int{times(3, 8), times(3, 16)}, 0, 4},
	} {
		v := fresh(t, 100)
		r, _ := grow(t, v, c.sizes)
		v.d.Flush()
		remove(t, v, r, at(c.gone))
		if v.d.Waiting() != 4*c.nodes {
			t.Errorf("%s: %d sectors, not of %d nodes", c.what, v.d.Waiting(), c.nodes)
		}
	}
	v := fresh(t, 100)
	r, _ := grow(t, v, [][]int{times(4, 9), times(4, 9)})
	v.d.Flush()
	insert(t, v, r, of(1, 50, 50))
	if v.d.Waiting() != 12 {
		t.Errorf("Insert: %d sectors", v.d.Waiting())
	}
}

// P13.1: the least key of a child changes, at each height.
func TestLeastChanges(t *testing.T) {
	v := fresh(t, 100)
	base := v.Map()
	r, l := grow(t, v, [][]int{times(4, 9), times(4, 9)})
	r = remove(t, v, r, at(36))
	l = slices.Delete(l, 36, 37)
	check(t, v, base, r, l)
	r = remove(t, v, r, at(0))
	l = l[1:]
	check(t, v, base, r, l)
	early := of(0, 5, 6)
	r = insert(t, v, r, early)
	l = slices.Insert(l, 0, early)
	check(t, v, base, r, l)
	n, _ := v.Node(r.Addr, false)
	if !slices.Equal(n.Keys, []node.Key{{Series: 0, Start: 5}, keyAt(37)}) {
		t.Error(n.Keys)
	}
	between := of(1, 3650, 3650) // above the first inner node's keys, below the second one's
	r = insert(t, v, r, between)
	l = slices.Insert(l, slices.Index(l, at(37)), between)
	check(t, v, base, r, l)
}

// P13.1: an entry that can't be, whatever the tree.
func TestEntryWrong(t *testing.T) {
	v := fresh(t, 100)
	r := load(t, v, run(0, 20))
	still := unchanged(t, v)
	for i, change := range []func(x *node.Entry){
		func(x *node.Entry) { x.Key.Series = -1 },
		func(x *node.Entry) { x.Key.Series = math.MaxUint32 + 1 },
		func(x *node.Entry) { x.End = x.Key.Start - 1 },
		func(x *node.Entry) { x.Addr = 1 },
		func(x *node.Entry) { x.Addr = 512 },
		func(x *node.Entry) { x.Len = 0 },
		func(x *node.Entry) { x.Len = 65536 },
		func(x *node.Entry) { x.Addr, x.Len = 511, 257 },
		func(x *node.Entry) { x.Count = 0 },
		func(x *node.Entry) { x.Count = 201 },
		func(x *node.Entry) { x.Codec = -1 },
		func(x *node.Entry) { x.Codec = 16 },
	} {
		// Known, or of a span that meets others, as well.
		for _, x := range []node.Entry{of(1, 5000, 5009), at(7), of(1, 350, 720)} {
			change(&x)
			for _, r := range []Root{r, {}, {99, 2}} {
				got, e := v.Insert(r, x)
				wantRoot(t, "Insert", got, e, api.ErrArg)
			}
			for _, l := range [][]node.Entry{{x}, {at(0), x}, {x, at(0)}, {at(1), at(0), x}, append(run(0, 30), x)} {
				got, e := v.Load(l)
				if got != (Root{}) || e != api.ErrArg {
					t.Errorf("%d: Load: %d", i, e)
				}
			}
		}
	}
	still()
	got, e := v.Insert(r, of(math.MaxUint32, math.MinInt64, math.MaxInt64))
	if e != api.OK {
		t.Error(got, e)
	}
}

// P13.1: what is known, or meets another one's span; that a key is known comes ahead.
func TestMeets(t *testing.T) {
	const least, most = math.MinInt64, math.MaxInt64
	for _, n := range []int{1, 7, 8, 20, 130} {
		v := fresh(t, 200)
		r := load(t, v, run(0, n))
		still := unchanged(t, v)
		for k := range n {
			start := int64(100 * k)
			for _, c := range []struct {
				x      node.Entry
				should api.Errno
			}{
				{at(k), api.ErrKnown},
				{of(1, start, start), api.ErrKnown},
				{of(1, start, most), api.ErrKnown},
				{of(1, start+1, start+1), api.ErrOverlap},
				{of(1, start+9, start+9), api.ErrOverlap},
				{of(1, start+9, start+20), api.ErrOverlap},
				{of(1, start-1, start), api.ErrOverlap},
				{of(1, start-50, start), api.ErrOverlap},
				{of(1, start-50, start+50), api.ErrOverlap},
				{of(1, start-50, most), api.ErrOverlap},
				{of(1, start+3, most), api.ErrOverlap},
				{of(1, least, most), api.ErrOverlap},
				{of(1, least, start), api.ErrOverlap},
			} {
				got, e := v.Insert(r, c.x)
				wantRoot(t, "Insert", got, e, c.should)
			}
		}
		still()
	}
}

// P13.1: what only touches the ones ahead and behind, or is of another series, is put in, at each place.
func TestBetween(t *testing.T) {
	for _, n := range []int{1, 7, 8, 20, 130} {
		for k := range n + 1 {
			v := fresh(t, 200)
			base := v.Map()
			r := load(t, v, run(0, n))
			start := int64(100 * k)
			x := of(1, start-90, start-1)
			r = insert(t, v, r, x)
			l := slices.Insert(run(0, n), k, x)
			check(t, v, base, r, l)
			y := of(2, start-150, start+150)
			r = insert(t, v, r, y)
			check(t, v, base, r, append(l, y))
			y = of(0, start-150, start+150)
			check(t, v, base, insert(t, v, r, y), append([]node.Entry{y}, append(l, of(2, start-150, start+150))...))
		}
	}
}

// P13.1: Load fills nodes from the left.
func TestLoad(t *testing.T) {
	for _, c := range []struct {
		n      int
		should [][]int
	}{
		{0, nil},
		{1, [][]int{{1}}},
		{7, [][]int{{7}}},
		{8, [][]int{{2}, {7, 1}}},
		{14, [][]int{{2}, {7, 7}}},
		{112, [][]int{{16}, times(7, 16)}},
		{113, [][]int{{2}, {16, 1}, append(times(7, 16), 1)}},
		{1792, [][]int{{16}, times(16, 16), times(7, 256)}},
		{1793, [][]int{{2}, {16, 1}, append(times(16, 16), 1), append(times(7, 256), 1)}},
	} {
		v := fresh(t, 512)
		base := v.Map()
		l := run(0, c.n)
		r := load(t, v, l)
		if r.Height != len(c.should) {
			t.Errorf("%d: %v", c.n, r)
		}
		checkShape(t, v, base, r, l, c.should)
		nodes := 0
		for _, level := range c.should {
			nodes += len(level)
		}
		if v.d.Waiting() != 4*nodes {
			t.Errorf("%d: %d sectors", c.n, v.d.Waiting())
		}
	}
	for n := range 130 {
		v := fresh(t, 100)
		check(t, v, bitmap.New(100), load(t, v, run(0, n)), run(0, n))
	}
}

// P13.1: a list that isn't a tree's; what is handed in stays as it is.
func TestLoadWrong(t *testing.T) {
	v := fresh(t, 100)
	still := unchanged(t, v)
	for i, l := range [][]node.Entry{
		{at(1), at(0)},
		{at(0), at(0)},
		{of(1, 0, 10), of(1, 10, 11)},
		{of(1, 0, 10), of(1, 5, 6)},
		{of(1, 0, 10), of(1, 0, 11)},
		{of(2, 0, 10), of(1, 20, 30)},
		append(run(0, 7), at(6)),
		append(run(1, 7), at(0)),
		append(run(0, 7), of(1, 609, 700)),
		append(run(0, 200), at(199)),
		append(run(0, 5000), at(0)),
	} {
		room := append(slices.Clone(l), at(50), at(51))
		before := slices.Clone(room)
		r, e := v.Load(room[:len(l)])
		if r != (Root{}) || e != api.ErrOrder {
			t.Errorf("%d: %v, %d", i, r, e)
		}
		if !slices.Equal(room, before) {
			t.Errorf("%d: the list was changed", i)
		}
	}
	still()
	room := append(run(0, 30), at(50), at(51))
	r := load(t, v, room[:30])
	if !slices.Equal(room, append(run(0, 30), at(50), at(51))) {
		t.Error("the list was changed")
	}
	clear(room)
	check(t, v, bitmap.New(100), r, run(0, 30))
	load(t, v, []node.Entry{of(1, 0, 9), of(1, 10, 19), of(2, 5, 9), of(3, math.MinInt64, math.MaxInt64)})
}

// full is a map in which all pages but these are in use.
func full(pages int, free ...int) bitmap.Map {
	m := bitmap.New(pages)
	for addr := range pages {
		m.Used[addr] = !slices.Contains(free, addr)
	}
	return m
}

// P13.1: no page is free, in m or in old.
func TestFull(t *testing.T) {
	d, _ := disk.New(16)
	for _, c := range []struct {
		m, old bitmap.Map
		room   int
	}{
		{full(16), bitmap.New(16), 0},
		{bitmap.New(16), full(16), 0},
		{full(16, 2, 3, 4), full(16, 5, 6), 0},
		{full(16, 9), bitmap.New(16), 1},
		{bitmap.New(16), full(16, 15), 1},
		{full(16, 2, 3, 4, 5), full(16, 4, 5, 6), 2},
		{full(16, 2, 9, 15), bitmap.New(16), 3},
	} {
		for _, n := range []int{0, 7, 14, 21} {
			v := opened(t, d, c.m, c.old)
			still := unchanged(t, v)
			nodes := n / 7
			if nodes > 1 {
				nodes++ // the root
			}
			r, e := v.Load(run(0, n))
			if nodes <= c.room {
				if e != api.OK {
					t.Errorf("%d of %d: %d", nodes, c.room, e)
				}
				check(t, v, c.m, r, run(0, n))
				continue
			}
			wantRoot(t, "Load", r, e, api.ErrFull)
			still()
		}
		v := opened(t, d, c.m, c.old)
		r, e := v.Insert(Root{}, at(0))
		if c.room == 0 {
			wantRoot(t, "Insert", r, e, api.ErrFull)
		} else if e != api.OK {
			t.Error(e)
		}
	}
	v := fresh(t, 16)
	r, e := v.Load(run(0, 5000))
	wantRoot(t, "Load", r, e, api.ErrFull)
	r, e = fresh(t, 512).Load(run(0, 7*16*16*16*16+1))
	wantRoot(t, "Load", r, e, api.ErrFull)
}

// P13.1: a tree that was there in the generation ahead needs pages for all that is changed, and stays where none is free.
func TestFullOld(t *testing.T) {
	for room := range 6 {
		v := fresh(t, 100)
		r := load(t, v, run(0, 21))
		old := v.Map()
		m := old
		for addr := range 100 - room {
			m.Used[addr] = true
		}
		for _, c := range []struct {
			what  string
			do    func(v *View) (Root, api.Errno)
			nodes int
			left  []node.Entry
		}{
			{"leaf and root", func(v *View) (Root, api.Errno) { return v.Delete(r, keyAt(0)) }, 2, run(1, 20)},
			{"two leaves and the root", func(v *View) (Root, api.Errno) { return v.Insert(r, at(21)) }, 3, run(0, 22)},
		} {
			v := opened(t, v.d, m, old)
			still := unchanged(t, v)
			got, e := c.do(v)
			if c.nodes > room {
				wantRoot(t, c.what, got, e, api.ErrFull)
				still()
				continue
			}
			if l, f := v.All(got); e != api.OK || f != api.OK || !slices.Equal(l, c.left) {
				t.Errorf("%s, %d free: %d, %d", c.what, room, e, f)
			}
			if l, e := v.All(r); e != api.OK || !slices.Equal(l, run(0, 21)) {
				t.Errorf("%s, %d free: the tree ahead isn't there any more: %d", c.what, room, e)
			}
		}
	}
}

// P13.1: the pages that a change gives back count as free, where old has them free.
func TestFullAnew(t *testing.T) {
	v := opened(t, fresh(t, 16).d, full(16, 4, 5, 6), bitmap.New(16))
	base := v.Map()
	r := insert(t, v, Root{}, run(0, 11)...)
	checkShape(t, v, base, r, run(0, 11), [][]int{{2}, {4, 7}})
	got, e := v.Insert(r, at(11))
	wantRoot(t, "Insert", got, e, api.ErrFull)
	check(t, v, base, r, run(0, 11))
	r = remove(t, v, r, run(0, 5)...)
	checkShape(t, v, base, r, run(5, 6), [][]int{{6}})
	r = remove(t, v, r, run(5, 6)...)
	check(t, v, base, r, nil)
}

// P13.1: while there is another page, a changed node is written to another one: the tree ahead is still there.
func TestNeverWhereItStands(t *testing.T) {
	v := fresh(t, 200)
	var r Root
	var l []node.Entry
	for k := range 130 {
		next := insert(t, v, r, at(k))
		if all, e := v.All(r); e != api.OK || !slices.Equal(all, l) {
			t.Fatalf("%d: %d, %d", k, len(all), e)
		}
		r, l = next, append(l, at(k))
	}
	for len(l) > 0 {
		k := len(l) / 3
		next := remove(t, v, r, l[k])
		if all, e := v.All(r); e != api.OK || !slices.Equal(all, l) {
			t.Fatalf("%d left: %d, %d", len(l), len(all), e)
		}
		r, l = next, slices.Delete(l, k, k+1)
	}
}

// P13.1: power goes at each step of a change: ErrStop is told, and the map is as it was.
func TestPower(t *testing.T) {
	v := fresh(t, 100)
	r := load(t, v, run(0, 21))
	v.d.Flush()
	m := v.Map()
	for _, c := range []struct {
		what  string
		do    func() (Root, api.Errno)
		steps int
	}{
		{"Insert", func() (Root, api.Errno) { return v.Insert(r, at(21)) }, 12},
		{"Delete", func() (Root, api.Errno) { return v.Delete(r, keyAt(3)) }, 8},
		{"Load", func() (Root, api.Errno) { return v.Load(run(0, 10)) }, 12},
	} {
		for steps := range c.steps + 1 {
			v.d.Fail(steps)
			got, e := c.do()
			if steps == c.steps {
				if e != api.OK || !v.d.On() {
					t.Errorf("%s: %d", c.what, e)
				}
				v.SetMap(m)
			} else {
				wantRoot(t, c.what, got, e, api.ErrStop)
			}
			if v.Map() != m {
				t.Errorf("%s, %d steps: the map was changed", c.what, steps)
			}
			v.d.Crash(nil)
			if l, e := v.All(r); e != api.OK || !slices.Equal(l, run(0, 21)) {
				t.Errorf("%s, %d steps: %d, %d", c.what, steps, len(l), e)
			}
		}
	}
}

// P13.1: nodes that stand above one another alone aren't written any more: the lowest is the root.
func TestRootsOfOneChild(t *testing.T) {
	v := fresh(t, 100)
	base := v.Map()
	craft(t, v, 2, node.Node{Leaf: true, Entries: run(0, 3)})
	for addr := 3; addr <= 6; addr++ {
		craft(t, v, addr, node.Node{Keys: []node.Key{keyAt(0)}, Kids: []int{addr - 1}})
	}
	r := insert(t, v, Root{6, 5}, at(3))
	checkShape(t, v, base, r, run(0, 4), [][]int{{4}})

	v = fresh(t, 100)
	craft(t, v, 2, node.Node{Leaf: true, Entries: run(0, 1)})
	craft(t, v, 3, node.Node{Leaf: true, Entries: run(1, 4)})
	craft(t, v, 4, node.Node{Keys: []node.Key{keyAt(0)}, Kids: []int{2}})
	craft(t, v, 5, node.Node{Keys: []node.Key{keyAt(1)}, Kids: []int{3}})
	craft(t, v, 6, node.Node{Keys: []node.Key{keyAt(0), keyAt(1)}, Kids: []int{4, 5}})
	r = remove(t, v, Root{6, 3}, at(0))
	checkShape(t, v, base, r, run(1, 4), [][]int{{4}})
}

// P13.2: a node that still has too few is joined again, as long as there is a neighbour.
func TestJoinAgain(t *testing.T) {
	v := fresh(t, 100)
	base := v.Map()
	var n node.Node
	for k := range 5 {
		craft(t, v, 2+k, node.Node{Leaf: true, Entries: run(k, 1)})
		n.Keys = append(n.Keys, keyAt(k))
		n.Kids = append(n.Kids, 2+k)
	}
	craft(t, v, 7, n)
	v2 := opened(t, v.d, v.Map(), bitmap.New(100))
	r := remove(t, v, Root{7, 2}, at(1))
	checkShape(t, v, base, r, append(run(0, 1), run(2, 3)...), [][]int{{2}, {1, 3}})
	r = remove(t, v2, Root{7, 2}, at(3))
	checkShape(t, v2, base, r, append(run(0, 3), at(4)), [][]int{{2}, {1, 3}})
	r = insert(t, v2, r, of(1, 50, 50))
	checkShape(t, v2, base, r, []node.Entry{at(0), of(1, 50, 50), at(1), at(2), at(4)}, [][]int{{5}})
}

// P13.1: a node whose page isn't in use is changed as others are.
func TestNotInUse(t *testing.T) {
	v := fresh(t, 100)
	r := load(t, v, run(0, 21))
	pages, _ := v.Pages(r)
	for _, addr := range pages {
		m := v.Map()
		m.Used[addr] = false
		w := opened(t, v.d, m, v.Map())
		next := insert(t, w, r, at(21))
		if l, e := w.All(next); e != api.OK || !slices.Equal(l, run(0, 22)) {
			t.Errorf("page %d: %d", addr, e)
		}
		next = remove(t, w, r, at(0), at(1), at(2), at(3), at(4))
		if l, e := w.All(next); e != api.OK || !slices.Equal(l, run(5, 16)) {
			t.Errorf("page %d: %d", addr, e)
		}
	}
}

// P13.1: where a page is given back only later, none is free when one is needed; nothing is lost by it.
func TestFullTillLater(t *testing.T) {
	v := fresh(t, 100)
	r, l := grow(t, v, [][]int{times(3, 8), times(3, 8)})
	root, _ := v.Node(r.Addr, false)
	v = opened(t, v.d, full(100), full(100, root.Kids[1]))
	still := unchanged(t, v)
	got, e := v.Delete(r, keyAt(0))
	wantRoot(t, "Delete", got, e, api.ErrFull)
	still()
	if all, e := v.All(r); e != api.OK || !slices.Equal(all, l) {
		t.Errorf("%d, %d entries", e, len(all))
	}
}

// P13.1: nodes that don't fit together are told as such, and nothing is written.
func TestNotTogether(t *testing.T) {
	v := fresh(t, 100)
	craft(t, v, 2, node.Node{Leaf: true, Entries: []node.Entry{at(0), at(1), at(20)}})
	craft(t, v, 3, node.Node{Leaf: true, Entries: run(10, 3)})
	craft(t, v, 4, node.Node{Keys: []node.Key{keyAt(0), keyAt(10)}, Kids: []int{2, 3}})
	still := unchanged(t, v)
	waiting := v.d.Waiting()
	r, e := v.Delete(Root{4, 2}, keyAt(0))
	wantRoot(t, "Delete", r, e, api.ErrForm)
	still()
	if v.d.Waiting() != waiting {
		t.Error("something was written")
	}
}

// P13.2 and P13.3: through whatever inserts and deletes, over generations, a tree has just the entries that should be, in no more nodes than need be, and no page that old has in use is written.
func TestAny(t *testing.T) {
	for seed := range uint64(12) {
		r := rand.New(rand.NewPCG(13, seed))
		d, _ := disk.New(512)
		m := bitmap.New(512)
		for addr := 2; addr < 512; addr++ {
			m.Used[addr] = r.IntN(6) == 0
		}
		base, root, all := m, Root{}, []node.Entry(nil)
		for range 25 {
			old := m
			for addr := 2; addr < 512; addr++ {
				old.Used[addr] = old.Used[addr] || r.IntN(20) == 0
			}
			v := opened(t, d, m, old)
			before := bytesOf(t, d, old)
			grows := r.IntN(10)
			for range r.IntN(60) {
				root, all = anyChange(t, r, v, root, all, grows)
			}
			check(t, v, base, root, all)
			checkLeast(t, v, root)
			if !slices.Equal(bytesOf(t, d, old), before) {
				t.Fatal("a page that old has in use was written")
			}
			m = v.Map()
		}
	}
}

// anyChange is an Insert or a Delete of any entry, held against a list.
func anyChange(t *testing.T, r *rand.Rand, v *View, root Root, all []node.Entry, grows int) (Root, []node.Entry) {
	t.Helper()
	if len(all) > 0 && r.IntN(10) >= grows {
		k := r.IntN(len(all))
		next := remove(t, v, root, all[k])
		got, e := v.Delete(next, all[k].Key)
		wantRoot(t, "Delete", got, e, api.ErrNone)
		checkLeast(t, v, next)
		return next, slices.Delete(slices.Clone(all), k, k+1)
	}
	start := int64(r.IntN(3000))
	x := node.Entry{Key: node.Key{Series: r.IntN(4), Start: start}, End: start + int64(r.IntN(12)), Addr: 2 + r.IntN(200), Len: 1 + r.IntN(65535), Count: 1 + r.IntN(200), Codec: r.IntN(16), Crc: r.Uint32()}
	at := 0
	for at < len(all) && node.Less(all[at].Key, x.Key) {
		at++
	}
	should := api.OK
	for _, y := range all {
		if y.Key.Series == x.Key.Series && y.Key.Start <= x.End && x.Key.Start <= y.End && should == api.OK {
			should = api.ErrOverlap
		}
		if y.Key == x.Key {
			should = api.ErrKnown
		}
	}
	next, e := v.Insert(root, x)
	if should != api.OK {
		wantRoot(t, "Insert", next, e, should)
		return root, all
	}
	if e != api.OK {
		t.Fatalf("Insert: %d", e)
	}
	if y, e := v.Find(next, x.Key); y != x || e != api.OK {
		t.Fatalf("Find: %v, %d", y, e)
	}
	checkLeast(t, v, next)
	return next, slices.Insert(slices.Clone(all), at, x)
}

// P1: whatever stands on a disk, each call ends, and tells nothing else with an error.
func TestAnyPages(t *testing.T) {
	r := rand.New(rand.NewPCG(13, 99))
	for range 3000 {
		v := fresh(t, 24)
		for addr := 2; addr < 24; addr++ {
			craft(t, v, addr, anyNode(r))
		}
		m := v.Map()
		for addr := range 24 {
			m.Used[addr] = addr < 2 || m.Used[addr] && r.IntN(3) > 0
		}
		v = opened(t, v.d, m, bitmap.New(24))
		for range 8 {
			root := Root{r.IntN(26), r.IntN(6)}
			x := of(1, int64(r.IntN(30)*100), int64(r.IntN(30)*100+9))
			still := unchanged(t, v)
			change := func() (Root, api.Errno) { return v.Insert(root, x) }
			if r.IntN(2) == 0 {
				change = func() (Root, api.Errno) { return v.Delete(root, x.Key) }
			}
			got, e := change()
			if e != api.OK {
				wantRoot(t, "any", got, e, e)
				still()
				continue
			}
			v.All(got)
			v.Pages(got)
			v.Find(got, x.Key)
		}
	}
}

// anyNode is a leaf or an inner node, of any size, of keys and children that may fit others'.
func anyNode(r *rand.Rand) node.Node {
	first := r.IntN(20)
	if r.IntN(2) == 0 {
		return node.Node{Leaf: true, Entries: run(first, 1+r.IntN(7))}
	}
	kids := r.Perm(24)
	var n node.Node
	for i := range 1 + r.IntN(16) {
		n.Keys = append(n.Keys, keyAt(first+i))
		n.Kids = append(n.Kids, kids[i]+2)
	}
	return n
}
