package bits

import (
	"bytes"
	"fmt"
	"math"
	"math/rand/v2"
	"slices"
	"strings"
	"testing"
)

// plain is a number's lowest n bits as noughts and ones.
func plain(v uint64, n int) string {
	return fmt.Sprintf("%064b", v)[64-n:]
}

// joined is noughts and ones as bytes.
func joined(bits string) []byte {
	bits += strings.Repeat("0", (8-len(bits)%8)%8)
	var b []byte
	for i := 0; i < len(bits); i += 8 {
		var c byte
		for _, k := range bits[i : i+8] {
			c = c<<1 | byte(k-'0')
		}
		b = append(b, c)
	}
	return b
}

// P4.1 and P4.2: whatever is put stands side by side, and is taken again by the same counts.
func TestPutTake(t *testing.T) {
	r := rand.New(rand.NewPCG(4, 1))
	for round := range 300 {
		var w Writer
		var values []uint64
		var counts []int
		all := ""
		for range round {
			v, n := r.Uint64(), r.IntN(65)
			w.Put(v, n)
			all += plain(v, n)
			values, counts = append(values, v), append(counts, n)
		}
		b := w.Bytes()
		if !bytes.Equal(b, joined(all)) {
			t.Fatalf("%v of %v: %v", values, counts, b)
		}
		take := New(b)
		left := 8 * len(b)
		for i, n := range counts {
			should := values[i]
			if n < 64 {
				should &= 1<<n - 1
			}
			if v := take.Take(n); v != should || take.Bad() {
				t.Fatalf("bits %d of %v: %d, not %d", i, counts, v, should)
			}
			left -= n
			if take.Left() != left {
				t.Fatalf("%d left, not %d", take.Left(), left)
			}
		}
	}
}

// P4.1: each bit of bytes is told by whatever counts, and Left tells how many there are yet.
func TestTakeCounts(t *testing.T) {
	r := rand.New(rand.NewPCG(4, 2))
	for range 300 {
		b := make([]byte, r.IntN(40))
		all := ""
		for i := range b {
			b[i] = byte(r.Uint32())
			all += plain(uint64(b[i]), 8)
		}
		take := New(b)
		for {
			n := r.IntN(65)
			if take.Left() != len(all) || take.Bad() {
				t.Fatalf("left %d, not %d; bad: %v", take.Left(), len(all), take.Bad())
			}
			if n > len(all) {
				break
			}
			if v := take.Take(n); plain(v, 64) != strings.Repeat("0", 64-n)+all[:n] {
				t.Fatalf("%d bits of %s: %b", n, all, v)
			}
			all = all[n:]
		}
	}
}

// P4.1: the chapter's example, and the order of bits and bytes.
func TestExamples(t *testing.T) {
	var w Writer
	if b := w.Bytes(); len(b) != 0 {
		t.Error(b)
	}
	w.Put(5, 3)
	w.Put(1, 2)
	if b := w.Bytes(); !bytes.Equal(b, []byte{0xA8}) {
		t.Error(b)
	}
	w.Put(7, 3)
	if b := w.Bytes(); !bytes.Equal(b, []byte{0xAF}) {
		t.Error(b)
	}
	w.Put(0, 1)
	if b := w.Bytes(); !bytes.Equal(b, []byte{0xAF, 0}) {
		t.Error(b)
	}
	w.Put(0x0102030405060708, 64)
	if b := w.Bytes(); !bytes.Equal(b, []byte{0xAF, 0, 0x81, 1, 0x82, 2, 0x83, 3, 0x84, 0}) {
		t.Error(b)
	}
}

// counts are what Put and Take may be given, and what they take it for.
var counts = [][2]int{
	{math.MinInt, 0}, {-64, 0}, {-1, 0}, {0, 0}, {1, 1}, {63, 63}, {64, 64}, {65, 64}, {128, 64}, {math.MaxInt, 64},
}

// P4.1: counts are taken from 0 to 64, wherever the others end.
func TestCounts(t *testing.T) {
	const v = 0xA5C3_9669_F00F_1234
	for _, ahead := range []int{0, 1, 7, 8, 63, 64} {
		for _, c := range counts {
			var w Writer
			w.Put(math.MaxUint64, ahead)
			w.Put(v, c[0])
			w.Put(1, 1)
			all := strings.Repeat("1", ahead) + plain(v, c[1]) + "1"
			b := w.Bytes()
			if !bytes.Equal(b, joined(all)) {
				t.Errorf("%d bits behind %d: %v", c[0], ahead, b)
			}
			r := New(b)
			r.Take(ahead)
			if got := r.Take(c[0]); plain(got, c[1]) != plain(v, c[1]) || r.Bad() || r.Left() != 8*len(b)-ahead-c[1] {
				t.Errorf("%d bits behind %d: %b, %d left", c[0], ahead, got, r.Left())
			}
		}
	}
}

// P4.1: with no bits left, or one too few, nothing is taken, then and from then on.
func TestBad(t *testing.T) {
	for _, b := range [][]byte{nil, {}, {0xFF}, {0xFF, 0xFF, 0xFF}, bytes.Repeat([]byte{0xFF}, 8)} {
		for left := range len(b)*8 + 1 {
			if left >= 64 {
				continue
			}
			r := New(b)
			r.Take(len(b)*8 - left)
			if r.Take(0) != 0 || r.Take(-1) != 0 || r.Bad() || r.Left() != left {
				t.Fatalf("%d left: bad, or %d", left, r.Left())
			}
			for _, n := range []int{left + 1, 0, -1, left, 1, 64, 65, math.MaxInt} {
				if v := r.Take(n); v != 0 || !r.Bad() || r.Left() != left {
					t.Fatalf("%d of %d left: %d, %v, %d", n, left, v, r.Bad(), r.Left())
				}
			}
		}
	}
	r := New(bytes.Repeat([]byte{0xFF}, 8))
	r.Take(1)
	if r.Take(65) != 0 || !r.Bad() || r.Left() != 63 {
		t.Error("65 is taken for 64, of which one is missing")
	}
	whole := New(bytes.Repeat([]byte{0xFF}, 8))
	if whole.Take(65) != math.MaxUint64 || whole.Bad() || whole.Left() != 0 {
		t.Error("65 is taken for 64")
	}
}

// P4.1: of nil, and of a Writer or a Reader that no call made.
func TestNil(t *testing.T) {
	var w *Writer
	var r *Reader
	for _, c := range counts {
		w.Put(math.MaxUint64, c[0])
		if r.Take(c[0]) != 0 || !r.Bad() || r.Left() != 0 {
			t.Errorf("%d of nil", c[0])
		}
	}
	if b := w.Bytes(); len(b) != 0 {
		t.Error(b)
	}
	var none Reader
	if none.Take(0) != 0 || none.Bad() || none.Left() != 0 || none.Take(1) != 0 || !none.Bad() {
		t.Error("a Reader of nothing")
	}
}

// P4.3: what Bytes answered is neither changed by what is done then, nor changes it.
func TestBytesNew(t *testing.T) {
	for _, ahead := range []int{0, 3, 8, 61, 64, 67, 128, 131} {
		var w Writer
		for range ahead {
			w.Put(1, 1)
		}
		one, other := w.Bytes(), w.Bytes()
		should := bytes.Clone(one)
		for i := range one[:cap(one)] {
			one[:cap(one)][i] = 0x55
		}
		if !bytes.Equal(other, should) || !bytes.Equal(w.Bytes(), should) {
			t.Fatalf("%d: one answer changes the other", ahead)
		}
		w.Put(math.MaxUint64, 64)
		if !bytes.Equal(other, should) {
			t.Fatalf("%d: Put changes an answer", ahead)
		}
		if b := w.Bytes(); !bytes.Equal(b, joined(strings.Repeat("1", ahead+64))) {
			t.Fatalf("%d: %v", ahead, b)
		}
	}
}

// P4.3: a Reader's bytes are kept, not a copy of them; they aren't changed.
func TestReaderKeeps(t *testing.T) {
	b := []byte{1, 2, 3, 4, 99}
	r := New(b[:4])
	if r.Take(8) != 1 {
		t.Error("the first byte")
	}
	b[2] = 0xF0
	if v := r.Take(24); v != 0x02F004 {
		t.Errorf("%x", v)
	}
	r.Take(1)
	if !r.Bad() || !slices.Equal(b, []byte{1, 2, 0xF0, 4, 99}) {
		t.Error(b)
	}
}

// Rule 5: two of a kind, a copy as well, go each its own way.
func TestApart(t *testing.T) {
	for _, ahead := range []int{0, 3, 64, 67, 192, 200} {
		var w Writer
		for range ahead {
			w.Put(1, 1)
		}
		other := w
		other.Put(0, 60)
		w.Put(math.MaxUint64, 60)
		other.Put(0, 60)
		w.Put(math.MaxUint64, 60)
		if b := w.Bytes(); !bytes.Equal(b, joined(strings.Repeat("1", ahead+120))) {
			t.Errorf("%d: %v", ahead, b)
		}
		if b := other.Bytes(); !bytes.Equal(b, joined(strings.Repeat("1", ahead)+strings.Repeat("0", 120))) {
			t.Errorf("%d, other: %v", ahead, b)
		}
	}
	b := []byte{0xA5}
	one, two := New(b), New(b)
	if one.Take(4) != 10 || two.Left() != 8 || two.Take(9) != 0 || one.Bad() || one.Take(4) != 5 {
		t.Error("two Readers of the same bytes")
	}
}
