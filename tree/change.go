package tree

import (
	"slices"

	"rick/api"
	"rick/node"
)

// What a node has at least, if it isn't the root.
const (
	leafLeast  = 3
	innerLeast = 8
)

// Insert is a tree with an entry more.
func (v *View) Insert(r Root, e node.Entry) (Root, api.Errno) {
	if !rightEntry(e) {
		return Root{}, api.ErrArg
	}
	way, err := v.way(r, e.Key)
	if err != api.OK {
		return Root{}, err
	}
	if _, ok := known(way, e.Key); ok {
		return Root{}, api.ErrKnown
	}
	if meets(way, e) {
		return Root{}, api.ErrOverlap
	}
	if len(way) == 0 {
		return v.Load([]node.Entry{e})
	}
	leaf := way[len(way)-1]
	leaf.n.Entries = slices.Insert(leaf.n.Entries, leaf.at, e)
	c := v.begin()
	return c.done(c.climb(way, leaf.n))
}

// Delete is a tree without the entry with a key.
func (v *View) Delete(r Root, k node.Key) (Root, api.Errno) {
	way, e := v.way(r, k)
	if e != api.OK {
		return Root{}, e
	}
	if _, ok := known(way, k); !ok {
		return Root{}, api.ErrNone
	}
	leaf := way[len(way)-1]
	leaf.n.Entries = slices.Delete(leaf.n.Entries, leaf.at, leaf.at+1)
	c := v.begin()
	return c.done(c.climb(way, leaf.n))
}

// Load is a new tree of entries.
func (v *View) Load(l []node.Entry) (Root, api.Errno) {
	if !v.open() {
		return Root{}, api.ErrArg
	}
	if e := rising(l); e != api.OK {
		return Root{}, e
	}
	c := v.begin()
	return c.done(c.top(filled(node.Node{Leaf: true, Entries: l}), 1))
}

// rising tells what is wrong with entries that should be a tree's.
func rising(l []node.Entry) api.Errno {
	for _, e := range l {
		if !rightEntry(e) {
			return api.ErrArg
		}
	}
	for i := 1; i < len(l); i++ {
		if !node.Right(node.Node{Leaf: true, Entries: l[i-1 : i+1]}) {
			return api.ErrOrder
		}
	}
	return api.OK
}

// rightEntry tells whether an entry may be: as a leaf's only one.
func rightEntry(e node.Entry) bool {
	return node.Right(node.Node{Leaf: true, Entries: []node.Entry{e}})
}

// climb puts a leaf in place of the one to which a way leads, and tells the root then.
func (c *change) climb(way []step, n node.Node) (Root, api.Errno) {
	for _, s := range way {
		c.give(s.addr)
	}
	for _, s := range slices.Backward(way[:len(way)-1]) {
		var e api.Errno
		if n, e = c.within(s, n); e != api.OK {
			return Root{}, e
		}
	}
	return c.top(node.Split(n), len(way))
}

// within is an inner node of a way with another node in place of the child there, which it lays.
func (c *change) within(s step, n node.Node) (node.Node, api.Errno) {
	n, from, to, e := c.joined(s, n)
	if e != api.OK {
		return node.Node{}, e
	}
	parts, e := c.above(node.Split(n))
	if e != api.OK {
		return node.Node{}, e
	}
	return node.Node{
		Keys: slices.Replace(s.n.Keys, from, to, parts.Keys...),
		Kids: slices.Replace(s.n.Kids, from, to, parts.Kids...),
	}, api.OK
}

// joined is a node in place of a child, joined with that child's neighbours as long as it has too few; and in place of which children it is then: from one up to another, that one not.
func (c *change) joined(s step, n node.Node) (node.Node, int, int, api.Errno) {
	from, to := s.at, s.at+1
	for few(n) && to-from < len(s.n.Kids) {
		last := to == len(s.n.Kids)
		beside := to
		if last {
			beside = from - 1
		}
		other, e := c.v.Node(s.n.Kids[beside], n.Leaf)
		if e != api.OK {
			return node.Node{}, 0, 0, e
		}
		c.give(s.n.Kids[beside])
		if last {
			n, from = node.Join(other, n), beside
		} else {
			n, to = node.Join(n, other), beside+1
		}
	}
	return n, from, to, api.OK
}

// few tells whether a node has too few entries or children, if it isn't the root.
func few(n node.Node) bool {
	if n.Leaf {
		return node.Size(n) < leafLeast
	}
	return node.Size(n) < innerLeast
}

// top lays nodes of one height, and nodes above them till one stands above all, and tells the root.
func (c *change) top(level []node.Node, height int) (Root, api.Errno) {
	for len(level) > 1 {
		if height == mostHeight {
			return Root{}, api.ErrFull
		}
		above, e := c.above(level)
		if e != api.OK {
			return Root{}, e
		}
		level = filled(above)
		height++
	}
	if len(level) == 0 {
		return Root{}, api.OK
	}
	n := level[0]
	for !n.Leaf && node.Size(n) == 1 {
		height--
		child, ok := c.unlay(n.Kids[0])
		if !ok {
			return Root{Addr: n.Kids[0], Height: height}, api.OK
		}
		n = child
	}
	addr, e := c.lay(n)
	if e != api.OK {
		return Root{}, e
	}
	return Root{Addr: addr, Height: height}, api.OK
}

// filled is a node in parts that have as many as may be, from the left.
func filled(n node.Node) []node.Node {
	var parts []node.Node
	for l := range slices.Chunk(n.Entries, api.LeafMost) {
		parts = append(parts, node.Node{Leaf: true, Entries: l})
	}
	for from := 0; from < len(n.Kids); from += api.InnerMost {
		to := min(from+api.InnerMost, len(n.Kids))
		parts = append(parts, node.Node{Keys: n.Keys[from:to], Kids: n.Kids[from:to]})
	}
	return parts
}
