package crc

import (
	"bytes"
	"math/rand/v2"
	"testing"
)

// plain is the sum as the chapter tells it, bit by bit.
func plain(b []byte) uint32 {
	n := ^uint32(0)
	for _, c := range b {
		for k := range 8 {
			other := n&1 != uint32(c>>k&1)
			n >>= 1
			if other {
				n ^= 0x82F63B78
			}
		}
	}
	return ^n
}

// some is so many bytes of no shape.
func some(r *rand.Rand, n int) []byte {
	b := make([]byte, n)
	for i := range b {
		b[i] = byte(r.Uint32())
	}
	return b
}

// P2.1: the table is what eight steps with bits 0 make of each number.
func TestNew(t *testing.T) {
	table := New()
	for i := range 256 {
		n := uint32(i)
		for range 8 {
			low := n & 1
			n >>= 1
			if low == 1 {
				n ^= 0x82F63B78
			}
		}
		if table[i] != n {
			t.Errorf("%d: %08X, not %08X", i, table[i], n)
		}
	}
	if table[0] != 0 || table[1] != 0xF26B8303 || table[128] != 0x82F63B78 || table[255] != 0xAD7D5351 {
		t.Errorf("%08X %08X %08X %08X", table[0], table[1], table[128], table[255])
	}
}

// P2.1: sums that are known.
func TestKnown(t *testing.T) {
	rising := make([]byte, 32)
	for i := range rising {
		rising[i] = byte(i)
	}
	for _, c := range []struct {
		b   []byte
		sum uint32
	}{
		{nil, 0},
		{[]byte{}, 0},
		{[]byte{0}, 0x527D5351},
		{[]byte("a"), 0xC1D04330},
		{[]byte("123456789"), 0xE3069283},
		{make([]byte, 32), 0x8A9136AA},
		{bytes.Repeat([]byte{255}, 32), 0x62A8AB43},
		{rising, 0x46DD794E},
	} {
		if sum := Sum(New(), c.b); sum != c.sum {
			t.Errorf("%v: %08X, not %08X", c.b, sum, c.sum)
		}
	}
}

// P2.1: Sum is the sum, and Behind goes on with it, wherever bytes are parted.
func TestParted(t *testing.T) {
	r := rand.New(rand.NewPCG(2, 1))
	table := New()
	for n := range 70 {
		b := some(r, n)
		sum := plain(b)
		if got := Sum(table, b); got != sum {
			t.Fatalf("%v: %08X, not %08X", b, got, sum)
		}
		for k := range n + 1 {
			if got := Behind(table, Sum(table, b[:k]), b[k:]); got != sum {
				t.Fatalf("%v, parted at %d: %08X, not %08X", b, k, got, sum)
			}
		}
	}
	if got := Behind(table, 0x12345678, nil); got != 0x12345678 {
		t.Errorf("nothing behind: %08X", got)
	}
}

// P2.1: with other tables the same steps are done.
func TestOtherTables(t *testing.T) {
	var noughts Table
	if got := Sum(noughts, []byte("a")); got != 0xFF000000 {
		t.Errorf("%08X", got)
	}
	if got := Behind(noughts, 0x12345678, []byte("ab")); got != ^uint32(0xEDCB) {
		t.Errorf("%08X", got)
	}
	var odd Table
	odd[0xFF] = 0x01020304
	odd[0xFB^2] = 0xA0000000
	// All ones become 00FFFFFF and, with 01020304, 01FDFCFB; that becomes 0001FDFC and, with A0000000, the end.
	if got := Sum(odd, []byte{0, 2}); got != ^(uint32(0x01FDFCFB)>>8 ^ 0xA0000000) {
		t.Errorf("%08X", got)
	}
}

// turn turns those bits of b, from one on, that are 1 in a pattern.
func turn(b []byte, from int, pattern uint32) []byte {
	c := bytes.Clone(b)
	for k := range 32 {
		if pattern>>k&1 == 1 {
			c[(from+k)/8] ^= 1 << ((from + k) % 8)
		}
	}
	return c
}

// P2.2: rows that differ in up to 32 bits side by side have other sums.
func TestSideBySide(t *testing.T) {
	r := rand.New(rand.NewPCG(2, 2))
	table := New()
	for _, n := range []int{4, 5, 9, 40} {
		b := some(r, n)
		sum := Sum(table, b)
		for from := range n*8 - 31 {
			patterns := []uint32{0xFFFFFFFF, 0x80000001, 0x82F63B78, 0x05EC76F1}
			for width := range 32 {
				patterns = append(patterns, 1<<width, 1<<width-1|1, r.Uint32()>>width|1)
			}
			for _, pattern := range patterns {
				if Sum(table, turn(b, from, pattern)) == sum {
					t.Fatalf("%d bytes, bits %08X from %d on: the same sum", n, pattern, from)
				}
			}
		}
	}
}

// P2.3: what is handed in is neither kept nor changed, its spare room neither.
func TestHandedIn(t *testing.T) {
	table := New()
	room := []byte("123456789 and more")
	sum := Sum(table, room[:9])
	behind := Behind(table, sum, room[9:12])
	if string(room) != "123456789 and more" || table != New() {
		t.Error("what was handed in is changed")
	}
	room[0] = 'x'
	table[1] = 5
	if Sum(New(), []byte("123456789")) != sum || Behind(New(), sum, []byte(" an")) != behind {
		t.Error("what was handed in is kept")
	}
}
