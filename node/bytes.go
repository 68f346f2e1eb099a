package node

import "rick/api"

// How many bytes the parts of a node take.
const (
	seriesSize = 4
	timeSize   = 8
	addrSize   = 2
	lenSize    = 2
	countSize  = 1
	codecSize  = 1
	crcSize    = 4
	keySize    = seriesSize + timeSize
	entrySize  = keySize + timeSize + addrSize + lenSize + countSize + codecSize + crcSize
	kidSize    = keySize + addrSize
)

// Put is a node as a page's body.
func Put(n Node) ([]byte, api.Errno) {
	if !Right(n) {
		return nil, api.ErrArg
	}
	b := []byte{byte(Size(n))}
	for _, e := range n.Entries {
		b = putEntry(b, e)
	}
	for i, kid := range n.Kids {
		b = putKey(b, n.Keys[i])
		b = putHigh(b, addrSize, uint64(kid))
	}
	return b, api.OK
}

// Get is the leaf, or the inner node, whose Put some bytes are.
func Get(leaf bool, b []byte) (Node, api.Errno) {
	size := kidSize
	if leaf {
		size = entrySize
	}
	if len(b) == 0 || len(b) != 1+int(b[0])*size {
		return Node{}, api.ErrForm
	}
	n := Node{Leaf: leaf}
	rest := cursor(b[1:])
	for range b[0] {
		if leaf {
			n.Entries = append(n.Entries, rest.entry())
			continue
		}
		n.Keys = append(n.Keys, rest.key())
		n.Kids = append(n.Kids, int(rest.high(addrSize)))
	}
	// Of a node that is Right no other bytes are put than these.
	if !Right(n) {
		return Node{}, api.ErrForm
	}
	return n, api.OK
}

func putEntry(b []byte, e Entry) []byte {
	b = putKey(b, e.Key)
	b = putHigh(b, timeSize, uint64(e.End))
	b = putHigh(b, addrSize, uint64(e.Addr))
	b = putHigh(b, lenSize, uint64(e.Len))
	b = putHigh(b, countSize, uint64(e.Count))
	b = putHigh(b, codecSize, uint64(e.Codec))
	return putHigh(b, crcSize, uint64(e.Crc))
}

func putKey(b []byte, k Key) []byte {
	b = putHigh(b, seriesSize, uint64(k.Series))
	return putHigh(b, timeSize, uint64(k.Start))
}

// putHigh lays a number behind b, in so many bytes, the highest first.
func putHigh(b []byte, size int, n uint64) []byte {
	for i := size - 1; i >= 0; i-- {
		b = append(b, byte(n>>(8*i)))
	}
	return b
}

// cursor is bytes of which the first ones are taken.
type cursor []byte

func (c *cursor) entry() Entry {
	return Entry{
		Key:   c.key(),
		End:   int64(c.high(timeSize)),
		Addr:  int(c.high(addrSize)),
		Len:   int(c.high(lenSize)),
		Count: int(c.high(countSize)),
		Codec: int(c.high(codecSize)),
		Crc:   uint32(c.high(crcSize)),
	}
}

func (c *cursor) key() Key {
	return Key{Series: int(c.high(seriesSize)), Start: int64(c.high(timeSize))}
}

// high takes a number of so many bytes, the highest first.
func (c *cursor) high(size int) uint64 {
	var n uint64
	for _, x := range (*c)[:size] {
		n = n<<8 | uint64(x)
	}
	*c = (*c)[size:]
	return n
}
