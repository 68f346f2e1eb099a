package walk

import (
	"math"
	"math/rand/v2"
	"slices"
	"testing"

	"rick/api"
	"rick/bitmap"
	"rick/crc"
	"rick/disk"
	"rick/node"
	"rick/page"
	"rick/tree"
)

const least, most = math.MinInt64, math.MaxInt64

// of is an entry of a series.
func of(series int, start, end int64) node.Entry {
	return node.Entry{Key: node.Key{Series: series, Start: start}, End: end, Addr: 5, Len: 1, Count: 1}
}

// run is n entries of a series, of ten times each, with room between them.
func run(series, n int) []node.Entry {
	var l []node.Entry
	for k := range n {
		l = append(l, of(series, int64(100*k), int64(100*k+9)))
	}
	return l
}

// planted is a tree of entries on a disk of its own.
func planted(t *testing.T, l []node.Entry) (*tree.View, *disk.Disk, tree.Root) {
	t.Helper()
	d, _ := disk.New(512)
	v, e := tree.Open(crc.New(), d, 1, bitmap.New(512), bitmap.New(512))
	if e != api.OK {
		t.Fatal(e)
	}
	r, e := v.Load(l)
	if e != api.OK {
		t.Fatal(e)
	}
	return v, d, r
}

// leaves is where a tree's leaves stand, from the left.
func leaves(t *testing.T, v *tree.View, r tree.Root) []int {
	t.Helper()
	level := []int{r.Addr}
	for height := r.Height; height > 1; height-- {
		var next []int
		for _, addr := range level {
			n, e := v.Node(addr, false)
			if e != api.OK {
				t.Fatal(e)
			}
			next = append(next, n.Kids...)
		}
		level = next
	}
	return level
}

// spoil lets a page be no node.
func spoil(d *disk.Disk, addr int) { page.WriteRaw(d, addr, make([]byte, 256)) }

// told is what an iterator tells, up to so many, and the error at which it ended.
func told(t *testing.T, v *tree.View, r tree.Root, upTo int) ([]node.Entry, api.Errno) {
	t.Helper()
	var l []node.Entry
	ended := api.OK
	for x, e := range Entries(v, r) {
		if ended != api.OK {
			t.Fatalf("%v, %d behind the error %d", x, e, ended)
		}
		ended = e
		if e != api.OK {
			if x != (node.Entry{}) {
				t.Errorf("%v with the error %d", x, e)
			}
			continue
		}
		l = append(l, x)
		if len(l) == upTo {
			break
		}
	}
	return l, ended
}

// P14.1 and P14.2: all entries, rising, as often as is asked.
func TestEntries(t *testing.T) {
	for _, n := range []int{0, 1, 7, 8, 14, 15, 112, 113, 500} {
		l := run(3, n)
		v, _, r := planted(t, l)
		all := Entries(v, r)
		for range 2 {
			var got []node.Entry
			for x, e := range all {
				if e != api.OK {
					t.Fatal(e)
				}
				got = append(got, x)
			}
			if !slices.Equal(got, l) {
				t.Errorf("%d: %v", n, got)
			}
		}
	}
}

// P14.1: one that looks while another one looks at the same iterator.
func TestEntriesNested(t *testing.T) {
	l := run(3, 20)
	v, _, r := planted(t, l)
	all := Entries(v, r)
	count := 0
	for x := range all {
		for y := range all {
			count++
			if y == x {
				break
			}
		}
	}
	if count != 20*21/2 {
		t.Error(count)
	}
}

// P14.1: who breaks off after each count reads no more: nodes that can't be read behind don't matter.
func TestBreakOff(t *testing.T) {
	for _, n := range []int{1, 7, 8, 30, 130} {
		l := run(3, n)
		for count := 1; count <= n; count++ {
			v, d, r := planted(t, l)
			at := leaves(t, v, r)
			needed := (count + 6) / 7
			for _, addr := range at[needed:] {
				spoil(d, addr)
			}
			if got, e := told(t, v, r, count); e != api.OK || !slices.Equal(got, l[:count]) {
				t.Fatalf("%d of %d: %d, %d", count, n, len(got), e)
			}
			checkTake(t, v, r, count, l[:count], nodesOf(needed, len(at)), api.OK)
			if needed == len(at) {
				continue
			}
			// One more than what stands in the leaves that can be read.
			if got, e := told(t, v, r, 0); e != api.ErrForm || !slices.Equal(got, l[:7*needed]) {
				t.Fatalf("%d of %d: %d, %d", count, n, len(got), e)
			}
			checkTake(t, v, r, 7*needed, l[:7*needed], nodesOf(needed, len(at)), api.OK)
			checkTake(t, v, r, 7*needed+1, nil, 0, api.ErrForm)
			checkTake(t, v, r, math.MaxInt, nil, 0, api.ErrForm)
		}
	}
}

// nodesOf is how many nodes are on the way to the first so many of the leaves of a tree that Load made.
func nodesOf(needed, of int) int {
	switch {
	case of == 1:
		return needed
	case of <= 16:
		return needed + 1
	}
	return needed + (needed+15)/16 + 1
}

func checkTake(t *testing.T, v *tree.View, r tree.Root, n int, should []node.Entry, nodes int, f api.Errno) {
	t.Helper()
	l, read, e := Take(v, r, n)
	if e != f || read != nodes || !slices.Equal(l, should) {
		t.Errorf("Take of %d: %d, %d, %d; not %d, %d, %d", n, len(l), read, e, len(should), nodes, f)
	}
}

// P14.1: a node is read when an iterator comes to it, not ahead.
func TestReadsLate(t *testing.T) {
	l := run(3, 30)
	v, d, r := planted(t, l)
	at := leaves(t, v, r)
	table := crc.New()
	other := of(3, 1000, 1005)
	b, _ := node.Put(node.Node{Leaf: true, Entries: []node.Entry{other}})
	count := 0
	var got []node.Entry
	ended := api.OK
	for x, e := range Entries(v, r) {
		count++
		switch count {
		case 7: // the last one of the first leaf
			page.Write(table, d, page.Page{Kind: page.Leaf, Addr: at[1], Body: b})
		case 8:
			spoil(d, at[1]) // too late
			spoil(d, at[2])
		}
		if e != api.OK {
			ended = e
			continue
		}
		got = append(got, x)
	}
	if ended != api.ErrForm || !slices.Equal(got, append(slices.Clone(l[:7]), other)) {
		t.Errorf("%d, %d entries", ended, len(got))
	}
	count = 0
	for _, e := range Entries(v, tree.Root{Addr: at[0], Height: 1}) {
		if count++; count == 1 {
			d.Fail(0)
			d.Flush()
		}
		if e != api.OK {
			t.Errorf("the leaf was read again: %d", e)
		}
	}
}

// P14.1: how many nodes are read for so many entries.
func TestTake(t *testing.T) {
	for _, n := range []int{0, 1, 7, 8, 14, 15, 112, 113, 300} {
		l := run(3, n)
		v, _, r := planted(t, l)
		all := (n + 6) / 7
		for _, count := range []int{math.MinInt, -7, -1, 0} {
			checkTake(t, v, r, count, nil, 0, api.OK)
		}
		for count := 1; count <= n+2; count++ {
			has := min(count, n)
			checkTake(t, v, r, count, l[:has], nodesOf((has+6)/7, max(all, 1)), api.OK)
		}
		checkTake(t, v, r, math.MaxInt, l, nodesOf(all, max(all, 1)), api.OK)
	}
}

// P14.1: the numbers for a tree of 113 entries, written out: leaves of 7, sixteen beneath the first inner node.
func TestTakeWritten(t *testing.T) {
	v, _, r := planted(t, run(3, 113))
	for _, c := range []struct{ n, nodes int }{{0, 0}, {1, 3}, {7, 3}, {8, 4}, {14, 4}, {15, 5}, {112, 18}, {113, 20}, {114, 20}} {
		if l, nodes, e := Take(v, r, c.n); nodes != c.nodes || len(l) != min(c.n, 113) || e != api.OK {
			t.Errorf("%d: %d, %d, %d", c.n, len(l), nodes, e)
		}
	}
}

// P14.1: the chapter's example: of an empty tree none, wherever its Root says that it stands.
func TestEmpty(t *testing.T) {
	v, d, _ := planted(t, nil)
	d.Fail(0)
	d.Flush()
	for _, addr := range []int{0, 2, -1, 1000} {
		r := tree.Root{Addr: addr}
		checkAll(t, "empty", v, r, api.OK)
		checkTake(t, v, r, 3, nil, 0, api.OK)
	}
}

// checkAll looks whether each call tells nothing but an error, or nothing at all.
func checkAll(t *testing.T, what string, v *tree.View, r tree.Root, should api.Errno) {
	t.Helper()
	count := 0
	for x, e := range Entries(v, r) {
		count++
		if e != should || x != (node.Entry{}) {
			t.Errorf("%s: %v, %d; not %d", what, x, e, should)
		}
	}
	if (count == 0) != (should == api.OK) || count > 1 {
		t.Errorf("%s: %d told", what, count)
	}
	if l, e := Spans(v, r, 3, least, most); len(l) != 0 || e != should {
		t.Errorf("%s: Spans: %v, %d; not %d", what, l, e, should)
	}
	if l, e := Series(v, r); len(l) != 0 || e != should {
		t.Errorf("%s: Series: %v, %d; not %d", what, l, e, should)
	}
	checkTake(t, v, r, 1, nil, 0, should)
}

// P14.1: a nil View, or a Height that can't be, whatever else is asked.
func TestWrong(t *testing.T) {
	v, _, r := planted(t, run(3, 30))
	for _, c := range []struct {
		v *tree.View
		r tree.Root
	}{
		{nil, tree.Root{}},
		{nil, r},
		{nil, tree.Root{Addr: 2, Height: -1}},
		{v, tree.Root{Addr: r.Addr, Height: -1}},
		{v, tree.Root{Addr: r.Addr, Height: 6}},
		{v, tree.Root{Height: math.MinInt}},
		{v, tree.Root{Height: math.MaxInt}},
	} {
		checkAll(t, "wrong", c.v, c.r, api.ErrArg)
		checkTake(t, c.v, c.r, 0, nil, 0, api.ErrArg)
		checkTake(t, c.v, c.r, -1, nil, 0, api.ErrArg)
		if l, e := Spans(c.v, c.r, 3, 1, 0); len(l) != 0 || e != api.ErrArg {
			t.Errorf("Spans: %v, %d", l, e)
		}
	}
}

// P14.1: a node that can't be read ends all, with the error, and with no more than that.
func TestNoNode(t *testing.T) {
	v, d, r := planted(t, run(3, 30))
	for height := 1; height <= 5; height++ {
		if height != r.Height {
			checkAll(t, "another height", v, tree.Root{Addr: r.Addr, Height: height}, api.ErrForm)
		}
		checkAll(t, "no such page", v, tree.Root{Addr: 512, Height: height}, api.ErrArg)
		checkAll(t, "no such page", v, tree.Root{Addr: -1, Height: height}, api.ErrArg)
	}
	at := leaves(t, v, r)
	spoil(d, at[3])
	if l, e := told(t, v, r, 0); e != api.ErrForm || !slices.Equal(l, run(3, 21)) {
		t.Errorf("%d, %d entries", e, len(l))
	}
	if l, e := Spans(v, r, 3, least, most); len(l) != 0 || e != api.ErrForm {
		t.Errorf("Spans: %v, %d", l, e)
	}
	if l, e := Series(v, r); len(l) != 0 || e != api.ErrForm {
		t.Errorf("Series: %v, %d", l, e)
	}
	spoil(d, at[0])
	checkAll(t, "the first leaf", v, r, api.ErrForm)
	spoil(d, r.Addr)
	checkAll(t, "the root", v, r, api.ErrForm)
	checkTake(t, v, r, 0, nil, 0, api.OK)
	if l, e := Spans(v, r, 3, 1, 0); len(l) != 0 || e != api.OK {
		t.Errorf("Spans: %v, %d", l, e)
	}
	d.Fail(0)
	d.Flush()
	checkAll(t, "no power", v, r, api.ErrStop)
}

// P14.1: ranges that touch a span's first and last time, and ranges of nothing.
func TestSpans(t *testing.T) {
	l := append(append(run(2, 20), run(3, 20)...), run(9, 3)...)
	v, _, r := planted(t, l)
	three := run(3, 20)
	for _, c := range []struct {
		series   int
		from, to int64
		should   []node.Entry
	}{
		{3, least, most, three},
		{3, 0, 1909, three},
		{3, 0, 1900, three},
		{3, 9, 1900, three},
		{3, 10, 1900, three[1:]},
		{3, 0, 1899, three[:19]},
		{3, 500, 509, three[5:6]},
		{3, 500, 500, three[5:6]},
		{3, 509, 509, three[5:6]},
		{3, 505, 505, three[5:6]},
		{3, 510, 599, nil},
		{3, 510, 600, three[6:7]},
		{3, 409, 500, three[4:6]},
		{3, 410, 499, nil},
		{3, 400, 399, nil},
		{3, 509, 500, nil},
		{3, most, least, nil},
		{3, least, least, nil},
		{3, most, most, nil},
		{3, least, -1, nil},
		{3, least, 0, three[:1]},
		{3, 1909, most, three[19:]},
		{3, 1910, most, nil},
		{2, 509, 600, run(2, 20)[5:7]},
		{9, least, most, run(9, 3)},
		{9, 209, 209, run(9, 3)[2:]},
		{1, least, most, nil},
		{4, least, most, nil},
		{10, least, most, nil},
		{0, least, most, nil},
		{-1, least, most, nil},
		{math.MinInt, least, most, nil},
		{math.MaxInt, least, most, nil},
	} {
		got, e := Spans(v, r, c.series, c.from, c.to)
		if e != api.OK || !slices.Equal(got, c.should) {
			t.Errorf("%d from %d to %d: %v, %d", c.series, c.from, c.to, got, e)
		}
	}
}

// P14.1: spans up to the least and the greatest time.
func TestSpansEnds(t *testing.T) {
	l := []node.Entry{of(0, least, -5), of(0, most, most), of(math.MaxUint32, least, most)}
	v, _, r := planted(t, l)
	for _, c := range []struct {
		series   int
		from, to int64
		should   []node.Entry
	}{
		{0, least, least, l[:1]}, {0, -5, -5, l[:1]}, {0, -4, most - 1, nil}, {0, -5, most, l[:2]}, {0, most, most, l[1:2]},
		{math.MaxUint32, least, least, l[2:]}, {math.MaxUint32, 0, 0, l[2:]}, {math.MaxUint32, most, most, l[2:]},
	} {
		got, e := Spans(v, r, c.series, c.from, c.to)
		if e != api.OK || !slices.Equal(got, c.should) {
			t.Errorf("%d from %d to %d: %v, %d", c.series, c.from, c.to, got, e)
		}
	}
}

// P14.1: Spans breaks off when there are enough: nothing behind is read.
func TestSpansBreakOff(t *testing.T) {
	l := append(run(2, 10), run(3, 11)...)
	v, d, r := planted(t, l)
	at := leaves(t, v, r)
	for _, c := range []struct {
		spoilt   int
		series   int
		from, to int64
		should   []node.Entry
	}{
		{2, 3, 0, 250, l[10:13]},
		{2, 3, 300, 305, l[13:14]}, // the last one of the second leaf
		{2, 3, 300, 309, l[13:14]},
		{2, 2, least, most, l[:10]},
		{2, 1, least, most, nil},
		{1, 2, 600, 609, l[6:7]}, // the last one of the first leaf
		{1, 2, 0, 599, l[:6]},
		{1, 0, least, most, nil},
	} {
		spoil(d, at[c.spoilt])
		got, e := Spans(v, r, c.series, c.from, c.to)
		if e != api.OK || !slices.Equal(got, c.should) {
			t.Errorf("%d from %d to %d: %v, %d", c.series, c.from, c.to, got, e)
		}
	}
	if got, e := Spans(v, r, 2, 600, 610); e != api.ErrForm || len(got) != 0 {
		t.Errorf("%v, %d", got, e)
	}
}

// P14.1: each series once, rising.
func TestSeries(t *testing.T) {
	for _, c := range [][]int{nil, {0}, {5, 5, 5}, {0, 0, 7, 8, 8, 1000, math.MaxUint32}} {
		var l []node.Entry
		for i, series := range c {
			for k := range 9 {
				l = append(l, of(series, int64(100*i+10*k), int64(100*i+10*k)))
			}
		}
		v, _, r := planted(t, l)
		got, e := Series(v, r)
		if e != api.OK || !slices.Equal(got, slices.Compact(slices.Clone(c))) {
			t.Errorf("%v: %v, %d", c, got, e)
		}
	}
}

// P14.1 and P14.2: of whatever trees, grown by inserts and deletes, each call tells what a plain list does.
func TestAny(t *testing.T) {
	for seed := range uint64(8) {
		r := rand.New(rand.NewPCG(14, seed))
		v, _, root := planted(t, nil)
		var all []node.Entry
		for range 400 {
			start := int64(r.IntN(500))
			x := of(r.IntN(4), start, start+int64(r.IntN(9)))
			if next, e := v.Insert(root, x); e == api.OK {
				root, all = next, append(all, x)
			}
			if k := r.IntN(2 * (len(all) + 1)); k < len(all) && r.IntN(3) == 0 {
				root, _ = v.Delete(root, all[k].Key)
				all = slices.Delete(all, k, k+1)
			}
		}
		slices.SortFunc(all, func(a, b node.Entry) int {
			if node.Less(a.Key, b.Key) {
				return -1
			}
			return 1
		})
		checkAny(t, r, v, root, all)
	}
}

// checkAny holds each call against a list.
func checkAny(t *testing.T, r *rand.Rand, v *tree.View, root tree.Root, all []node.Entry) {
	t.Helper()
	if l, e := told(t, v, root, 0); e != api.OK || !slices.Equal(l, all) {
		t.Fatalf("%d, %d entries, not %d", e, len(l), len(all))
	}
	if l, nodes, e := Take(v, root, len(all)); e != api.OK || !slices.Equal(l, all) || nodes != len(pages(t, v, root)) {
		t.Errorf("Take: %d, %d nodes", e, nodes)
	}
	var series []int
	for _, x := range all {
		series = append(series, x.Key.Series)
	}
	if l, e := Series(v, root); e != api.OK || !slices.Equal(l, slices.Compact(series)) {
		t.Errorf("Series: %v, %d", l, e)
	}
	for range 300 {
		of, from := r.IntN(5), int64(r.IntN(520)-10)
		to := from + int64(r.IntN(40)-3)
		var should []node.Entry
		for _, x := range all {
			if x.Key.Series == of && from <= to && x.Key.Start <= to && x.End >= from {
				should = append(should, x)
			}
		}
		if l, e := Spans(v, root, of, from, to); e != api.OK || !slices.Equal(l, should) {
			t.Fatalf("%d from %d to %d: %v, not %v, %d", of, from, to, l, should, e)
		}
	}
}

func pages(t *testing.T, v *tree.View, root tree.Root) []int {
	t.Helper()
	l, e := v.Pages(root)
	if e != api.OK {
		t.Fatal(e)
	}
	return l
}

// P14.1: a tree as high as may be, of nodes of one child.
func TestFiveHigh(t *testing.T) {
	v, d, r := planted(t, run(3, 7))
	table := crc.New()
	for height := 2; height <= 5; height++ {
		b, _ := node.Put(node.Node{Keys: []node.Key{{Series: 3}}, Kids: []int{r.Addr}})
		addr := 100 + height
		page.Write(table, d, page.Page{Kind: page.Inner, Addr: addr, Body: b})
		r = tree.Root{Addr: addr, Height: height}
		if l, e := told(t, v, r, 0); e != api.OK || !slices.Equal(l, run(3, 7)) {
			t.Errorf("%d, %d", len(l), e)
		}
		checkTake(t, v, r, 2, run(3, 2), height, api.OK)
	}
}

// P14.1: answers are new memory.
func TestMemory(t *testing.T) {
	v, _, r := planted(t, run(3, 20))
	for range 2 {
		l, e := Spans(v, r, 3, least, most)
		if e != api.OK || !slices.Equal(l, run(3, 20)) {
			t.Error(e)
		}
		clear(l)
		l, _, e = Take(v, r, 20)
		if e != api.OK || !slices.Equal(l, run(3, 20)) {
			t.Error(e)
		}
		clear(l)
		s, e := Series(v, r)
		if e != api.OK || !slices.Equal(s, []int{3}) {
			t.Error(e)
		}
		clear(s)
	}
}
