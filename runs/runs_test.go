package runs

import (
	"bytes"
	"encoding/binary"
	"math"
	"math/rand/v2"
	"slices"
	"testing"

	"rick/api"
)

// laid is numbers as bytes: of each run its count and its value.
func laid(l ...uint64) []byte {
	var b []byte
	for _, n := range l {
		b = binary.AppendUvarint(b, n)
	}
	return b
}

// model is the chapter's Put: a run ends where the next value is another one.
func model(l []uint64) []byte {
	var b []byte
	count := 0
	for i, v := range l {
		count++
		if i == len(l)-1 || l[i+1] != v {
			b = append(b, laid(uint64(count), v)...)
			count = 0
		}
	}
	return b
}

// some is n values, of which many come again.
func some(r *rand.Rand, n int) []uint64 {
	kinds := []uint64{0, 1, 7, 127, 128, r.Uint64(), math.MaxUint64}
	l := make([]uint64, n)
	for i := range l {
		l[i] = kinds[r.IntN(len(kinds))]
		if i > 0 && r.IntN(3) > 0 {
			l[i] = l[i-1]
		}
	}
	return l
}

func refused(t *testing.T, what string, b []byte, n int, should api.Errno) {
	t.Helper()
	if l, size, e := Get(b, n); e != should || len(l) != 0 || size != 0 {
		t.Errorf("%s: %v, %d, %d; not %d", what, l, size, e, should)
	}
}

func both(t *testing.T, l []uint64) {
	t.Helper()
	b, e := Put(l)
	if e != api.OK || !bytes.Equal(b, model(l)) {
		t.Fatalf("%v: %x, %d", l, b, e)
	}
	for _, behind := range [][]byte{nil, {0}, {1}, {0x80}, {0x80, 0}, b} {
		m, size, e := Get(slices.Concat(b, behind), len(l))
		if e != api.OK || size != len(b) || !slices.Equal(l, m) {
			t.Fatalf("%v ahead of %x: %v, %d, %d", l, behind, m, size, e)
		}
	}
	for k := range b {
		refused(t, "cut off", b[:k], len(l), api.ErrShort)
	}
}

// P9.1 and P9.2: values are laid as they should be, and got again, whatever stands behind.
func TestPutGet(t *testing.T) {
	r := rand.New(rand.NewPCG(9, 1))
	for range 20 {
		for _, n := range []int{0, 1, 2, 3, 10, 127, 128, 199, 200} {
			both(t, some(r, n))
		}
	}
	rising := make([]uint64, 200)
	for i := range rising {
		rising[i] = uint64(i)
	}
	both(t, rising)
	both(t, []uint64{1, 2, 1, 2, 1})
	if b, e := Put([]uint64{7, 7, 1}); e != api.OK || !bytes.Equal(b, []byte{2, 7, 1, 1}) {
		t.Error(b, e)
	}
}

// P9.1: 200 of one value are one run; 201 aren't put; of none there is no byte.
func TestCounts(t *testing.T) {
	same := slices.Repeat([]uint64{5}, 201)
	both(t, same[:200])
	if b, e := Put(same[:200]); e != api.OK || !bytes.Equal(b, []byte{0xC8, 1, 5}) {
		t.Error(b, e)
	}
	for _, l := range [][]uint64{same, slices.Repeat(same, 5)} {
		if b, e := Put(l); e != api.ErrArg || len(b) != 0 {
			t.Error(len(l), b, e)
		}
	}
	for _, l := range [][]uint64{nil, {}} {
		if b, e := Put(l); e != api.OK || len(b) != 0 {
			t.Error(b, e)
		}
	}
	for _, n := range []int{math.MinInt, -1, 201, math.MaxInt} {
		for _, b := range [][]byte{nil, laid(201, 5), {0x80, 0}} {
			refused(t, "n", b, n, api.ErrArg)
		}
	}
	for _, b := range [][]byte{nil, {}, {0, 0}, {0x80}, {0x80, 0}} {
		if l, size, e := Get(b, 0); len(l) != 0 || size != 0 || e != api.OK {
			t.Error(b, l, size, e)
		}
	}
}

// P9.1: what is met first is told; of one run, varint's errors come ahead.
func TestWrong(t *testing.T) {
	refused(t, "nothing", nil, 1, api.ErrShort)
	refused(t, "a run of 0", laid(0, 7), 1, api.ErrForm)
	refused(t, "a run of 0, then one", laid(0, 7, 1, 7), 1, api.ErrForm)
	refused(t, "a run of 0 behind one", laid(1, 7, 0, 8), 2, api.ErrForm)
	refused(t, "two of one", laid(2, 7), 1, api.ErrForm)
	refused(t, "two of one left", laid(1, 7, 2, 8), 2, api.ErrForm)
	refused(t, "201 of 200", laid(201, 7), 200, api.ErrForm)
	refused(t, "more than any int", laid(math.MaxUint64, 7), 200, api.ErrForm)
	refused(t, "more than any int, behind others", laid(1, 7, 1<<63+1, 8), 200, api.ErrForm)
	refused(t, "2^32 + 1 of 1", laid(1<<32+1, 7), 1, api.ErrForm)
	refused(t, "one value in two runs", laid(1, 7, 1, 7), 2, api.ErrForm)
	refused(t, "one value in two runs, behind others", laid(1, 6, 2, 7, 1, 7), 4, api.ErrForm)
	refused(t, "noughts in two runs", laid(1, 0, 1, 0), 2, api.ErrForm)
	refused(t, "the count's form", []byte{0x81, 0, 7}, 1, api.ErrForm)
	refused(t, "the value's form", []byte{1, 0x87, 0}, 1, api.ErrForm)
	refused(t, "the count's form, and no value", []byte{0x81, 0}, 1, api.ErrForm)
	refused(t, "a run of 0 without a value", []byte{0}, 1, api.ErrShort)
	refused(t, "a run of too many, with half a value", []byte{9, 0x80}, 1, api.ErrShort)
	refused(t, "the second run's value is short", []byte{1, 7, 1, 0x80}, 2, api.ErrShort)
	refused(t, "the first run is wrong, the second one short", laid(0, 7, 1), 2, api.ErrForm)
	refused(t, "the first run is right, the second one of 0", laid(2, 7, 0, 7), 3, api.ErrForm)
	refused(t, "the second run is one too long, and a third one short", laid(1, 7, 3, 8, 1), 3, api.ErrForm)
	if l, size, e := Get(laid(1, 0, 1, 7), 2); !slices.Equal(l, []uint64{0, 7}) || size != 4 || e != api.OK {
		t.Error(l, size, e)
	}
}

// P9.1 and P9.2: whatever bytes are got are Put's of those values.
func TestAnyBytes(t *testing.T) {
	r := rand.New(rand.NewPCG(9, 2))
	right := 0
	for range 50000 {
		b := make([]byte, r.IntN(9))
		for i := range b {
			b[i] = byte(r.IntN(4))
			if r.IntN(8) == 0 {
				b[i] |= 0x80
			}
		}
		n := r.IntN(7)
		l, size, e := Get(b, n)
		if e != api.OK {
			if e != api.ErrForm && e != api.ErrShort || len(l) != 0 || size != 0 {
				t.Fatalf("%x: %v, %d, %d", b, l, size, e)
			}
			continue
		}
		right++
		if len(l) != n || !bytes.Equal(b[:size], model(l)) {
			t.Fatalf("%x: %v, %d", b, l, size)
		}
	}
	if right < 1000 {
		t.Errorf("only %d are right", right)
	}
}

// P9.3: what is handed in stays as it is; answers are new memory.
func TestNothingKept(t *testing.T) {
	l := []uint64{9, 9, 8, 99, 99}
	one, _ := Put(l[:3])
	other, _ := Put(l[:3])
	for i := range other[:cap(other)] {
		other[:cap(other)][i] = 0x55
	}
	if !slices.Equal(l, []uint64{9, 9, 8, 99, 99}) || !bytes.Equal(one, []byte{2, 9, 1, 8}) {
		t.Fatal(l, one)
	}
	b := append(bytes.Clone(one), 0x77, 0x77)
	m, _, _ := Get(b[:4], 3)
	again, _, _ := Get(b[:4], 3)
	if !bytes.Equal(b, []byte{2, 9, 1, 8, 0x77, 0x77}) {
		t.Error(b)
	}
	for i := range m[:cap(m)] {
		m[:cap(m)][i] = 1
	}
	b[1] = 1
	if !slices.Equal(again, []uint64{9, 9, 8}) {
		t.Error(again)
	}
}
