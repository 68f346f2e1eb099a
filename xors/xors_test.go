package xors

import (
	"bytes"
	"fmt"
	"math"
	"math/rand/v2"
	"slices"
	"strings"
	"testing"

	"rick/api"
	"rick/bits"
)

// piece is a number in so many bits.
type piece struct {
	v uint64
	n int
}

// laid is numbers side by side, as bytes.
func laid(pieces ...piece) []byte {
	var w bits.Writer
	for _, p := range pieces {
		w.Put(p.v, p.n)
	}
	return w.Bytes()
}

// change is what a value has that isn't the one ahead: noughts ahead, how many bits, and these.
func change(lead, count int, v uint64) []piece {
	return []piece{{1, 1}, {uint64(lead), 6}, {uint64(count - 1), 6}, {v, count}}
}

// model is the chapter's Put, looked for in noughts and ones.
func model(l []uint64) []byte {
	var all []piece
	for i, v := range l {
		switch {
		case i == 0:
			all = append(all, piece{v, 64})
		case v == l[i-1]:
			all = append(all, piece{0, 1})
		default:
			text := fmt.Sprintf("%064b", v^l[i-1])
			lead, last := strings.Index(text, "1"), strings.LastIndex(text, "1")
			all = append(all, change(lead, last-lead+1, (v^l[i-1])/(1<<(63-last)))...)
		}
	}
	return laid(all...)
}

// some is n values, each another one in some bits only, or in none.
func some(r *rand.Rand, n int) []uint64 {
	l := make([]uint64, n)
	for i := range l {
		l[i] = r.Uint64()
		if i > 0 && r.IntN(4) > 0 {
			l[i] = l[i-1] ^ r.Uint64()>>r.IntN(65)<<r.IntN(65)
		}
	}
	return l
}

func refused(t *testing.T, what string, b []byte, n int, should api.Errno) {
	t.Helper()
	if l, size, e := Get(b, n); e != should || len(l) != 0 || size != 0 {
		t.Errorf("%s: %v, %d, %d; not %d", what, l, size, e, should)
	}
}

func both(t *testing.T, l []uint64) {
	t.Helper()
	b, e := Put(l)
	if e != api.OK || !bytes.Equal(b, model(l)) {
		t.Fatalf("%v: %x, %d", l, b, e)
	}
	for _, behind := range [][]byte{nil, {0}, {0xFF}, bytes.Repeat([]byte{0xA5}, 30)} {
		m, size, e := Get(slices.Concat(b, behind), len(l))
		if e != api.OK || size != len(b) || !slices.Equal(l, m) {
			t.Fatalf("%v ahead of %x: %v, %d, %d", l, behind, m, size, e)
		}
	}
	for k := range b {
		refused(t, "cut off", b[:k], len(l), api.ErrShort)
	}
}

// P8.1 and P8.2: values are laid as they should be, and got again, whatever stands behind.
func TestPutGet(t *testing.T) {
	r := rand.New(rand.NewPCG(8, 1))
	for range 10 {
		for _, n := range []int{0, 1, 2, 3, 10, 64, 199, 200} {
			both(t, some(r, n))
		}
	}
	for _, l := range [][]uint64{
		{0}, {0, 0}, {math.MaxUint64}, {5, 5}, {5, 5, 5, 4},
		{0, math.MaxUint64}, {0xAAAAAAAAAAAAAAAA, 0x5555555555555555}, {0, 1}, {1, 0}, {0, 1 << 63}, {1 << 63, 0},
		{0, 1<<63 + 1}, {7, 7 ^ 1<<63, 7, 6}, {0, 1<<63 - 1}, {0, math.MaxUint64 - 1}, slices.Repeat([]uint64{9}, 200),
	} {
		both(t, l)
	}
	for first := range 64 {
		for last := first; last < 64; last++ {
			x := uint64(math.MaxUint64) >> first & (math.MaxUint64 << (63 - last))
			both(t, []uint64{0xA5A5A5A5A5A5A5A5, 0xA5A5A5A5A5A5A5A5 ^ x, 1})
		}
	}
}

// P8.1: the chapter's example, and the least and the greatest counts, bit by bit.
func TestExamples(t *testing.T) {
	for _, c := range []struct {
		l      []uint64
		behind []byte
	}{
		{[]uint64{5, 5}, []byte{0}},
		{[]uint64{5, 5, 5, 5, 5, 5, 5, 5, 5}, []byte{0}},
		{[]uint64{5, 5, 5, 5, 5, 5, 5, 5, 5, 5}, []byte{0, 0}},
		// 1, 63 noughts, 1 bit, which is 1.
		{[]uint64{5, 4}, []byte{0b1_111111_0, 0b00000_1_00}},
		// 1, no nought, 1 bit, which is 1.
		{[]uint64{5, 5 | 1<<63}, []byte{0b1_000000_0, 0b00000_1_00}},
		// 1, no nought, 64 bits, all 1.
		{[]uint64{5, 5 ^ math.MaxUint64}, []byte{0b1_000000_1, 0b11111_111, 255, 255, 255, 255, 255, 255, 255, 0b11111000}},
	} {
		should := append([]byte{0, 0, 0, 0, 0, 0, 0, 5}, c.behind...)
		if b, e := Put(c.l); e != api.OK || !bytes.Equal(b, should) {
			t.Errorf("%v: %x, %d; not %x", c.l, b, e, should)
		}
	}
}

// P8.1: 200 values are put, and 201 aren't; of none there is no byte.
func TestCounts(t *testing.T) {
	for _, n := range []int{201, 202, 1000} {
		if b, e := Put(make([]uint64, n)); e != api.ErrArg || len(b) != 0 {
			t.Error(n, b, e)
		}
	}
	for _, l := range [][]uint64{nil, {}} {
		if b, e := Put(l); e != api.OK || len(b) != 0 {
			t.Error(b, e)
		}
	}
	for _, n := range []int{math.MinInt, -1, 201, math.MaxInt} {
		for _, b := range [][]byte{nil, make([]byte, 8), make([]byte, 3000)} {
			refused(t, "n", b, n, api.ErrArg)
		}
	}
	for _, b := range [][]byte{nil, {}, {1}, make([]byte, 8), {255, 255, 255, 255, 255, 255, 255, 255, 255}} {
		if l, size, e := Get(b, 0); len(l) != 0 || size != 0 || e != api.OK {
			t.Error(b, l, size, e)
		}
	}
}

// behind is the value 5, and bits behind it.
func behind(pieces ...[]piece) []byte {
	return laid(append([]piece{{5, 64}}, slices.Concat(pieces...)...)...)
}

// P8.1: bits that Put would not write; with too few bits that is told, whatever they are.
func TestForm(t *testing.T) {
	same, one := []piece{{0, 1}}, change(63, 1, 1)
	for _, c := range []struct {
		what string
		bad  []piece
	}{
		{"no bit is another one", change(63, 1, 0)},
		{"no bit of 64 is another one", change(0, 64, 0)},
		{"a nought too few ahead", change(62, 2, 1)},
		{"a nought too many behind", change(62, 2, 2)},
		{"both", change(0, 64, 8)},
		{"a bit beyond the lowest one", change(63, 2, 3)},
		{"a bit beyond the lowest one, and it is a nought", change(63, 2, 2)},
		{"63 bits beyond the lowest one", change(63, 64, math.MaxUint64)},
		{"63 bits beyond the lowest one, just one of them is 1", change(63, 64, 1)},
		{"one bit of 64 beyond", change(1, 64, math.MaxUint64)},
		{"33 and 32", change(33, 32, math.MaxUint64)},
	} {
		refused(t, c.what, behind(c.bad), 2, api.ErrForm)
		refused(t, c.what+", and one more", behind(c.bad, same), 3, api.ErrForm)
		refused(t, c.what+", behind others", behind(same, one, c.bad, one), 5, api.ErrForm)
		b := behind(one, c.bad)
		refused(t, c.what+", cut off", b[:len(b)-1], 3, api.ErrShort)
		refused(t, c.what+", and seventeen are missing", b, 20, api.ErrShort)
	}
	for k := range 7 {
		b := behind(same)
		b[8] |= 1 << k
		refused(t, "a bit behind the last value", b, 2, api.ErrForm)
	}
}

// P8.1: of bits, not of bytes, there are too few.
func TestShortBits(t *testing.T) {
	// The last byte ends with a 1, behind which six bits, and six more, should stand.
	b := laid(piece{5, 64}, piece{0, 7}, piece{1, 1})
	refused(t, "no bit behind a 1", b, 9, api.ErrShort)
	if l, size, e := Get(laid(piece{5, 64}, piece{0, 8}), 9); len(l) != 9 || size != 9 || e != api.OK {
		t.Error(l, size, e)
	}
	refused(t, "eight bits for nine values", laid(piece{5, 64}, piece{0, 8}), 10, api.ErrShort)
	whole := behind(change(0, 60, 1<<59+1))
	for k := 8; k < len(whole); k++ {
		refused(t, "a piece of a change", whole[:k], 2, api.ErrShort)
	}
}

// P8.1 and P8.2: whatever bytes are got are Put's of those values.
func TestAnyBytes(t *testing.T) {
	r := rand.New(rand.NewPCG(8, 2))
	right := 0
	for range 30000 {
		n := r.IntN(6)
		b, _ := Put(some(r, n))
		b = append(b, make([]byte, r.IntN(3))...)
		if len(b) > 0 {
			b[r.IntN(len(b))] ^= 1 << r.IntN(8)
		}
		l, size, e := Get(b, n)
		if e != api.OK {
			if e != api.ErrForm && e != api.ErrShort || len(l) != 0 || size != 0 {
				t.Fatalf("%x: %v, %d, %d", b, l, size, e)
			}
			continue
		}
		right++
		if len(l) != n || !bytes.Equal(b[:size], model(l)) {
			t.Fatalf("%x: %v, %d", b, l, size)
		}
	}
	if right < 1000 {
		t.Errorf("only %d are right", right)
	}
}

// P8.3: what is handed in stays as it is; answers are new memory.
func TestNothingKept(t *testing.T) {
	l := []uint64{5, 4, 5, 99, 99}
	should := model(l[:3])
	one, _ := Put(l[:3])
	other, _ := Put(l[:3])
	for i := range other[:cap(other)] {
		other[:cap(other)][i] = 0x55
	}
	if !slices.Equal(l, []uint64{5, 4, 5, 99, 99}) || !bytes.Equal(one, should) {
		t.Fatal(l, one)
	}
	n := len(one)
	b := append(bytes.Clone(one), 0x77, 0x77)
	m, _, _ := Get(b[:n], 3)
	again, _, _ := Get(b[:n], 3)
	if !bytes.Equal(b, append(should, 0x77, 0x77)) {
		t.Error(b)
	}
	for i := range m[:cap(m)] {
		m[:cap(m)][i] = 1
	}
	b[7] = 1
	if !slices.Equal(again, []uint64{5, 4, 5}) {
		t.Error(again)
	}
}
