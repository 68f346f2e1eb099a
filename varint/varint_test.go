package varint

import (
	"bytes"
	"encoding/binary"
	"math"
	"math/rand/v2"
	"testing"

	"rick/api"
)

// numbers are those at which a byte more is needed, and some between.
func numbers() []uint64 {
	l := []uint64{0, 1, 2, 127, 128, 129, 300, math.MaxUint64 - 1, math.MaxUint64}
	for k := 1; k < 64; k++ {
		l = append(l, 1<<k-1, 1<<k, 1<<k+1)
	}
	r := rand.New(rand.NewPCG(5, 1))
	for range 300 {
		l = append(l, r.Uint64()>>r.IntN(64))
	}
	return l
}

// repeated is a byte so many times, and others behind them.
func repeated(c byte, n int, behind ...byte) []byte {
	return append(bytes.Repeat([]byte{c}, n), behind...)
}

// refused wants an error, and nothing beside it.
func refused(t *testing.T, b []byte, should api.Errno) {
	t.Helper()
	if n, size, e := Get(b); e != should || n != 0 || size != 0 {
		t.Errorf("%x: %d, %d, %d; not %d", b, n, size, e, should)
	}
}

// P5.1 and P5.2: numbers are laid as they should be, behind whatever stands there, and got again, whatever stands behind.
func TestPutGet(t *testing.T) {
	for _, n := range numbers() {
		should := binary.AppendUvarint(nil, n)
		if b := Put(nil, n); !bytes.Equal(b, should) {
			t.Errorf("%d: %x", n, b)
		}
		ahead := []byte{0x80, 7, 0xFF}
		if b := Put(ahead, n); !bytes.Equal(b, append(bytes.Clone(ahead), should...)) {
			t.Errorf("%d behind others: %x", n, b)
		}
		for _, behind := range [][]byte{nil, {0}, {0x80}, {0xFF, 1}} {
			m, size, e := Get(append(bytes.Clone(should), behind...))
			if m != n || size != len(should) || e != api.OK {
				t.Errorf("%d ahead of %x: %d, %d, %d", n, behind, m, size, e)
			}
		}
		for k := range should {
			refused(t, should[:k], api.ErrShort)
		}
	}
	if b := Put([]byte{}, 300); !bytes.Equal(b, []byte{0xAC, 2}) {
		t.Error(b)
	}
	if b := Put(nil, 0); !bytes.Equal(b, []byte{0}) {
		t.Error(b)
	}
	if b := Put(nil, math.MaxUint64); !bytes.Equal(b, repeated(0xFF, 9, 1)) {
		t.Error(b)
	}
}

// P5.1: what is wrong first, from the left, is told.
func TestWrong(t *testing.T) {
	refused(t, nil, api.ErrShort)
	refused(t, []byte{}, api.ErrShort)
	for k := 1; k <= 9; k++ {
		for _, c := range []byte{0x80, 0x81, 0xFF} {
			refused(t, repeated(c, k), api.ErrShort)
			refused(t, repeated(c, k, 0), api.ErrForm)
			refused(t, repeated(c, k, 0, 1), api.ErrForm)
		}
	}
	if n, size, e := Get(repeated(0x80, 9, 1)); n != 1<<63 || size != 10 || e != api.OK {
		t.Error(n, size, e)
	}
	if n, size, e := Get(repeated(0xFF, 9, 1, 1)); n != math.MaxUint64 || size != 10 || e != api.OK {
		t.Error(n, size, e)
	}
	for _, c := range []byte{2, 3, 0x7F, 0x80, 0x81, 0xFF} {
		refused(t, repeated(0xFF, 9, c), api.ErrForm)
		refused(t, repeated(0x80, 9, c, 1), api.ErrForm)
		refused(t, repeated(0x80, 9, c, 0x80, 0), api.ErrForm)
	}
}

// P5.1: all that has up to three bytes is a number's Put, or is refused.
func TestAllShort(t *testing.T) {
	for n := range 1 << 16 {
		for _, b := range [][]byte{{byte(n)}, {byte(n), byte(n >> 8)}, {byte(n), byte(n >> 8), 0}, {byte(n), byte(n >> 8), 0x80}, {byte(n), byte(n >> 8), 5}} {
			end := 0
			for end < len(b) && b[end] >= 0x80 {
				end++
			}
			switch {
			case end == len(b):
				refused(t, b, api.ErrShort)
			case end > 0 && b[end] == 0:
				refused(t, b, api.ErrForm)
			default:
				m, size, e := Get(b)
				if e != api.OK || size != end+1 || !bytes.Equal(Put(nil, m), b[:size]) {
					t.Fatalf("%x: %d, %d, %d", b, m, size, e)
				}
			}
		}
	}
}

// P5.1 and P5.2: numbers with a sign are told by turns, and back.
func TestZigZag(t *testing.T) {
	pairs := []struct {
		n    int64
		with uint64
	}{
		{0, 0}, {-1, 1}, {1, 2}, {-2, 3}, {2, 4}, {10, 20}, {-64, 127}, {64, 128},
		{math.MaxInt64, math.MaxUint64 - 1}, {math.MinInt64, math.MaxUint64}, {math.MinInt64 + 1, math.MaxUint64 - 2},
	}
	for _, p := range pairs {
		if Zig(p.n) != p.with || Zag(p.with) != p.n {
			t.Errorf("%d and %d: %d, %d", p.n, p.with, Zig(p.n), Zag(p.with))
		}
	}
	for _, n := range numbers() {
		if Zig(Zag(n)) != n || Zag(Zig(int64(n))) != int64(n) {
			t.Errorf("%d: %d, %d", n, Zig(Zag(n)), Zag(Zig(int64(n))))
		}
		half := int64(n >> 1)
		if Zig(half) != 2*uint64(half) || Zig(-half-1) != 2*uint64(half)+1 {
			t.Errorf("%d: %d, %d", half, Zig(half), Zig(-half-1))
		}
	}
}

// P5.3: what is handed in stays as it is, its spare room as well; an answer is new memory.
func TestNothingKept(t *testing.T) {
	for _, n := range []uint64{0, 127, 128, math.MaxUint64} {
		room := repeated(0x55, 40)
		b := room[:3]
		one, other := Put(b, n), Put(b, n)
		if !bytes.Equal(room, repeated(0x55, 40)) {
			t.Fatalf("%d: changed: %x", n, room)
		}
		should := bytes.Clone(one)
		b[0] = 1
		for i := range other[:cap(other)] {
			other[:cap(other)][i] = 2
		}
		if !bytes.Equal(one, should) || room[1] != 0x55 || room[3] != 0x55 {
			t.Fatalf("%d: shared: %x, %x", n, one, room)
		}
	}
	b := repeated(0xFF, 9, 1, 7)
	Get(b)
	if !bytes.Equal(b, repeated(0xFF, 9, 1, 7)) {
		t.Error(b)
	}
}
