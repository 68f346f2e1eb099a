package tree

import (
	"slices"

	"rick/api"
	"rick/bitmap"
	"rick/node"
	"rick/page"
)

// change is what becomes of a tree. Nothing is written, and the view's map stays, till all of it is known: what is refused changes nothing.
type change struct {
	v      *View
	m      bitmap.Map // which pages are in use then
	before bitmap.Map // which are in use as it begins, and which were in the generation ahead
	laid   []laid
}

// laid is a node, and the page to which it is to be written.
type laid struct {
	addr int
	n    node.Node
}

func (v *View) begin() *change {
	c := &change{v: v, m: v.m, before: v.old}
	for i, used := range v.m.Used {
		c.before.Used[i] = c.before.Used[i] || used
	}
	return c
}

// take is a page to which a node may be written.
func (c *change) take() (int, api.Errno) {
	// As long as there is another page, none is written that the tree has as the change begins.
	m, addr, e := bitmap.Take(c.m, c.before, 1)
	if e != api.OK {
		m, addr, e = bitmap.Take(c.m, c.v.old, 1)
	}
	if e != api.OK {
		return 0, e
	}
	c.m = m
	return addr, api.OK
}

// give gives a node's page back. One that isn't in use needs no giving.
func (c *change) give(addr int) {
	if m, e := bitmap.Give(c.m, addr, 1); e == api.OK {
		c.m = m
	}
}

// lay takes a page for a node, and tells which.
func (c *change) lay(n node.Node) (int, api.Errno) {
	addr, e := c.take()
	if e != api.OK {
		return 0, e
	}
	c.laid = append(c.laid, laid{addr: addr, n: n})
	return addr, api.OK
}

// unlay is the node that was laid for a page, which is given back; false, if none was.
func (c *change) unlay(addr int) (node.Node, bool) {
	i := slices.IndexFunc(c.laid, func(l laid) bool { return l.addr == addr })
	if i < 0 {
		return node.Node{}, false
	}
	n := c.laid[i].n
	c.laid = slices.Delete(c.laid, i, i+1)
	c.give(addr)
	return n, true
}

// above lays nodes, and is an inner node whose children they are, however many.
func (c *change) above(children []node.Node) (node.Node, api.Errno) {
	var n node.Node
	for _, child := range children {
		addr, e := c.lay(child)
		if e != api.OK {
			return node.Node{}, e
		}
		n.Keys = append(n.Keys, node.Least(child))
		n.Kids = append(n.Kids, addr)
	}
	return n, api.OK
}

// done writes what is laid, if nothing was wrong.
func (c *change) done(r Root, e api.Errno) (Root, api.Errno) {
	if e == api.OK {
		e = c.write()
	}
	if e != api.OK {
		return Root{}, e
	}
	return r, api.OK
}

func (c *change) write() api.Errno {
	var pages []page.Page
	for _, l := range c.laid {
		b, e := node.Put(l.n)
		if e != api.OK {
			// Only of a tree whose nodes don't fit together a node comes that can't be.
			return api.ErrForm
		}
		pages = append(pages, page.Page{Kind: kind(l.n.Leaf), Addr: l.addr, Gen: c.v.gen, Body: b})
	}
	for _, p := range pages {
		if e := page.Write(c.v.t, c.v.d, p); e != api.OK {
			return e
		}
	}
	c.v.m = c.m
	return api.OK
}
