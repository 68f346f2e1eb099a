package pack

import (
	"bytes"
	"math"
	"math/rand/v2"
	"slices"
	"testing"

	"rick/api"
	"rick/bits"
)

// laid is a least number, a count of bits, and what is above, as bytes.
func laid(least uint64, width byte, above ...uint64) []byte {
	var w bits.Writer
	w.Put(least, 64)
	w.Put(uint64(width), 8)
	for _, n := range above {
		w.Put(n, int(width))
	}
	return w.Bytes()
}

// model is the chapter's Put, looked for bit by bit.
func model(l []uint64) []byte {
	if len(l) == 0 {
		return nil
	}
	least, most := l[0], l[0]
	for _, n := range l {
		least, most = min(least, n), max(most, n)
	}
	width := byte(0)
	for d := most - least; d > 0; d /= 2 {
		width++
	}
	var above []uint64
	for _, n := range l {
		above = append(above, n-least)
	}
	return laid(least, width, above...)
}

// some is n numbers whose differences have up to so many bits.
func some(r *rand.Rand, n, width int) []uint64 {
	l := make([]uint64, n)
	least := r.Uint64()
	for i := range l {
		l[i] = least + r.Uint64()&(1<<width-1)
	}
	return l
}

func refused(t *testing.T, what string, b []byte, n int, should api.Errno) {
	t.Helper()
	if l, size, e := Get(b, n); e != should || len(l) != 0 || size != 0 {
		t.Errorf("%s: %v, %d, %d; not %d", what, l, size, e, should)
	}
}

// both puts and gets, with and without bytes behind.
func both(t *testing.T, l []uint64) {
	t.Helper()
	b, e := Put(l)
	if e != api.OK || !bytes.Equal(b, model(l)) {
		t.Fatalf("%v: %x, %d", l, b, e)
	}
	for _, behind := range [][]byte{nil, {0}, {0xFF}, bytes.Repeat([]byte{0xA5}, 300)} {
		m, size, e := Get(slices.Concat(b, behind), len(l))
		if e != api.OK || size != len(b) || !slices.Equal(l, m) {
			t.Fatalf("%v ahead of %x: %v, %d, %d", l, behind, m, size, e)
		}
	}
}

// P6.1 and P6.2: numbers of all widths and counts are laid as they should be, and got again.
func TestPutGet(t *testing.T) {
	r := rand.New(rand.NewPCG(6, 1))
	for width := range 65 {
		for _, n := range []int{0, 1, 2, 3, 7, 8, 9, 100, 199, 200} {
			both(t, some(r, n, width))
		}
	}
	for _, l := range [][]uint64{
		{0}, {math.MaxUint64}, {0, math.MaxUint64}, {math.MaxUint64, 0}, {5, 5, 5}, {1, 0}, {1 << 63, 1<<63 - 1},
		{10, 13, 11}, {0, 255}, {0, 256}, {math.MaxUint64, math.MaxUint64 - 1}, {1, math.MaxUint64, 0}, {0, 1<<63 - 1}, {0, 1 << 63},
	} {
		both(t, l)
	}
	if b, e := Put([]uint64{7, 7}); e != api.OK || !bytes.Equal(b, []byte{0, 0, 0, 0, 0, 0, 0, 7, 0}) {
		t.Error(b, e)
	}
	if b, e := Put([]uint64{258, 259, 261}); e != api.OK || !bytes.Equal(b, []byte{0, 0, 0, 0, 0, 0, 1, 2, 2, 0b00011100}) {
		t.Error(b, e)
	}
}

// P6.1: 200 numbers are put, and 201 aren't; of none there is no byte.
func TestCounts(t *testing.T) {
	r := rand.New(rand.NewPCG(6, 2))
	for _, n := range []int{201, 202, 1000} {
		if b, e := Put(some(r, n, 8)); e != api.ErrArg || len(b) != 0 {
			t.Error(n, b, e)
		}
	}
	for _, l := range [][]uint64{nil, {}} {
		if b, e := Put(l); e != api.OK || len(b) != 0 {
			t.Error(b, e)
		}
	}
	whole := laid(7, 0)
	for _, n := range []int{math.MinInt, -1, 201, math.MaxInt} {
		for _, b := range [][]byte{nil, whole, laid(7, 65), bytes.Repeat([]byte{0}, 3000)} {
			refused(t, "n", b, n, api.ErrArg)
		}
	}
	for _, b := range [][]byte{nil, {}, {1}, whole, laid(7, 65)} {
		if l, size, e := Get(b, 0); len(l) != 0 || size != 0 || e != api.OK {
			t.Error(b, l, size, e)
		}
	}
}

// P6.1: what is wrong is told in the chapter's order.
func TestOrder(t *testing.T) {
	for k := range 9 {
		refused(t, "a short head", laid(7, 65)[:k], 1, api.ErrShort)
	}
	if l, size, e := Get(laid(7, 0), 3); !slices.Equal(l, []uint64{7, 7, 7}) || size != 9 || e != api.OK {
		t.Error(l, size, e)
	}
	for _, width := range []byte{65, 66, 128, 255} {
		refused(t, "a wide one, and short", laid(7, 0)[:8:8], 1, api.ErrShort)
		b := laid(7, 0)
		b[8] = width
		refused(t, "too wide, and short", b, 200, api.ErrForm)
		refused(t, "too wide", append(b, make([]byte, 3000)...), 2, api.ErrForm)
	}
	b := laid(0, 64, 0, math.MaxUint64)
	if l, size, e := Get(b, 2); !slices.Equal(l, []uint64{0, math.MaxUint64}) || size != 25 || e != api.OK {
		t.Error(l, size, e)
	}
	r := rand.New(rand.NewPCG(6, 3))
	for _, width := range []int{1, 3, 8, 13, 64} {
		for _, n := range []int{2, 5, 8, 200} {
			l := some(r, n, width)
			l[0], l[1] = 0, 1<<width-1
			b, _ := Put(l)
			refused(t, "one byte too few", b[:len(b)-1], n, api.ErrShort)
			refused(t, "the head alone", b[:9], n, api.ErrShort)
			refused(t, "no whole head", b[:8], n, api.ErrShort)
		}
	}
	// Nothing below is Put's, and there is too little of it.
	refused(t, "another least one, and short", laid(7, 8, 1), 2, api.ErrShort)
}

// P6.1: bits that Put would not write.
func TestForm(t *testing.T) {
	refused(t, "one number in a bit", laid(7, 1, 0), 1, api.ErrForm)
	refused(t, "one number above the least one", laid(7, 1, 1), 1, api.ErrForm)
	refused(t, "numbers that are one", laid(7, 1, 0, 0), 2, api.ErrForm)
	refused(t, "none is the least one", laid(7, 2, 1, 3), 2, api.ErrForm)
	refused(t, "a bit too many", laid(7, 3, 0, 3), 2, api.ErrForm)
	refused(t, "64 bits, of which one is too many", laid(0, 64, 0, 1<<63-1), 2, api.ErrForm)
	refused(t, "beyond the greatest number", laid(math.MaxUint64, 1, 0, 1), 2, api.ErrForm)
	refused(t, "beyond the greatest number", laid(1, 64, 0, math.MaxUint64), 2, api.ErrForm)
	for k := range 4 {
		b := laid(7, 2, 0, 3)
		b[9] |= 1 << k
		refused(t, "a bit behind the last number", b, 2, api.ErrForm)
	}
}

// P6.1 and P6.2: whatever bytes are got are Put's of those numbers.
func TestAnyBytes(t *testing.T) {
	r := rand.New(rand.NewPCG(6, 4))
	right := 0
	for range 20000 {
		n := r.IntN(6)
		b, _ := Put(some(r, n, r.IntN(65)))
		b = append(b, make([]byte, r.IntN(3))...)
		if len(b) > 0 {
			b[r.IntN(len(b))] ^= 1 << r.IntN(8)
		}
		l, size, e := Get(b, n)
		if e != api.OK {
			if e != api.ErrForm && e != api.ErrShort || len(l) != 0 || size != 0 {
				t.Fatalf("%x: %v, %d, %d", b, l, size, e)
			}
			continue
		}
		right++
		if len(l) != n || !bytes.Equal(b[:size], model(l)) {
			t.Fatalf("%x: %v, %d", b, l, size)
		}
	}
	if right < 1000 {
		t.Errorf("only %d are right", right)
	}
}

// P6.3: what is handed in stays as it is; answers are new memory.
func TestNothingKept(t *testing.T) {
	l := []uint64{9, 7, 8, 99, 99}
	one, _ := Put(l[:3])
	other, _ := Put(l[:3])
	for i := range other[:cap(other)] {
		other[:cap(other)][i] = 0x55
	}
	if !slices.Equal(l, []uint64{9, 7, 8, 99, 99}) || !bytes.Equal(one, laid(7, 2, 2, 0, 1)) {
		t.Fatal(l, one)
	}
	b := append(bytes.Clone(one), 0x77, 0x77)
	m, _, _ := Get(b[:10], 3)
	again, _, _ := Get(b[:10], 3)
	m[0] = 1
	b[0], b[9] = 1, 1
	if !slices.Equal(again, []uint64{9, 7, 8}) || !bytes.Equal(b[10:], []byte{0x77, 0x77}) || !bytes.Equal(b[1:9], one[1:9]) {
		t.Error(again, b)
	}
}
