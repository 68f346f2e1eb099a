package tree

import (
	"slices"

	"rick/api"
	"rick/node"
)

// step is a node on the way from a root to a leaf: where it stands, and which of its children comes next; of the leaf, which is its first entry that isn't ahead of the key.
type step struct {
	addr int
	n    node.Node
	at   int
}

// way is the nodes from a root down to the leaf in which a key is, if it is in the tree.
func (v *View) way(r Root, k node.Key) ([]step, api.Errno) {
	if e := v.refused(r); e != api.OK {
		return nil, e
	}
	var way []step
	addr := r.Addr
	for height := r.Height; height > 0; height-- {
		n, e := v.Node(addr, height == 1)
		if e != api.OK {
			return nil, e
		}
		s := step{addr: addr, n: n, at: place(n, k)}
		way = append(way, s)
		if height > 1 {
			addr = n.Kids[s.at]
		}
	}
	return way, api.OK
}

// place is where a key's way goes on in a node.
func place(n node.Node, k node.Key) int {
	if n.Leaf {
		at, _ := slices.BinarySearchFunc(n.Entries, k, func(e node.Entry, k node.Key) int { return order(e.Key, k) })
		return at
	}
	at, found := slices.BinarySearchFunc(n.Keys, k, order)
	if found || at == 0 {
		// A key ahead of all has its place beneath the first child.
		return at
	}
	return at - 1
}

// order is below 0, 0 or above, as a is ahead of b, the same, or behind.
func order(a, b node.Key) int {
	switch {
	case node.Less(a, b):
		return -1
	case node.Less(b, a):
		return 1
	}
	return 0
}

// known is the entry with the key to which a way goes, if there is one.
func known(way []step, k node.Key) (node.Entry, bool) {
	if len(way) == 0 {
		return node.Entry{}, false
	}
	leaf := way[len(way)-1]
	if leaf.at == len(leaf.n.Entries) || leaf.n.Entries[leaf.at].Key != k {
		return node.Entry{}, false
	}
	return leaf.n.Entries[leaf.at], true
}

// meets tells whether an entry's span meets that of the one ahead or behind, where its way goes.
func meets(way []step, e node.Entry) bool {
	if len(way) == 0 {
		return false
	}
	leaf := way[len(way)-1]
	if leaf.at > 0 {
		ahead := leaf.n.Entries[leaf.at-1]
		if ahead.Key.Series == e.Key.Series && ahead.End >= e.Key.Start {
			return true
		}
	}
	k, ok := behind(way)
	return ok && k.Series == e.Key.Series && k.Start <= e.End
}

// behind is the first key of the tree behind the place to which a way goes. Where the leaf ends, the nodes above tell it: no other leaf is read.
func behind(way []step) (node.Key, bool) {
	leaf := way[len(way)-1]
	if leaf.at < len(leaf.n.Entries) {
		return leaf.n.Entries[leaf.at].Key, true
	}
	for _, s := range slices.Backward(way[:len(way)-1]) {
		if s.at+1 < len(s.n.Keys) {
			return s.n.Keys[s.at+1], true
		}
	}
	return node.Key{}, false
}

// Find is the entry with a key.
func (v *View) Find(r Root, k node.Key) (node.Entry, api.Errno) {
	way, e := v.way(r, k)
	if e != api.OK {
		return node.Entry{}, e
	}
	found, ok := known(way, k)
	if !ok {
		return node.Entry{}, api.ErrNone
	}
	return found, api.OK
}
