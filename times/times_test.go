package times

import (
	"bytes"
	"encoding/binary"
	"math"
	"math/rand/v2"
	"slices"
	"testing"

	"rick/api"
	"rick/bits"
	"rick/pack"
)

const least, most = math.MinInt64, math.MaxInt64

// piece is a number in so many bits.
type piece struct {
	v uint64
	n int
}

// laid is numbers side by side, as bytes.
func laid(pieces ...piece) []byte {
	var w bits.Writer
	for _, p := range pieces {
		w.Put(p.v, p.n)
	}
	return w.Bytes()
}

// turn is a difference of differences, as the chapter tells it.
func turn(d int64) []piece {
	switch {
	case d == 0:
		return []piece{{0b0, 1}}
	case d >= -64 && d <= 63:
		return []piece{{0b10, 2}, {uint64(d), 7}}
	case d >= -256 && d <= 255:
		return []piece{{0b110, 3}, {uint64(d), 9}}
	case d >= -2048 && d <= 2047:
		return []piece{{0b1110, 4}, {uint64(d), 12}}
	}
	return []piece{{0b1111, 4}, {uint64(d), 64}}
}

// model is the chapter's Put.
func model(l []int64, way int) []byte {
	var b []byte
	var all []piece
	var differences []uint64
	for i, t := range l {
		switch {
		case way == api.Raw, way == api.Packed && i == 0:
			b = binary.BigEndian.AppendUint64(b, uint64(t))
		case way == api.Delta && i == 0:
			b = binary.AppendVarint(b, t)
		case way == api.Delta:
			b = binary.AppendUvarint(b, uint64(t)-uint64(l[i-1]))
		case way == api.Packed:
			differences = append(differences, uint64(t)-uint64(l[0]))
		case i == 0:
			all = append(all, piece{uint64(t), 64})
		case i == 1:
			all = append(all, piece{uint64(t) - uint64(l[0]), 64})
		default:
			all = append(all, turn(t-l[i-1]-(l[i-1]-l[i-2]))...)
		}
	}
	packed, _ := pack.Put(differences)
	return slices.Concat(b, laid(all...), packed)
}

// some is n times; they rise, or go as they like.
func some(r *rand.Rand, n int) []int64 {
	l := make([]int64, n)
	width := r.IntN(65)
	for i := range l {
		l[i] = int64(r.Uint64())
		if i > 0 {
			l[i] = l[i-1] + int64(r.Uint64()&(1<<width-1))
		}
		if i > 1 && r.IntN(3) > 0 {
			l[i] = 2*l[i-1] - l[i-2] + int64(r.Uint64())>>(40+r.IntN(24))
		}
	}
	return l
}

// ofTurns is times with these differences of differences.
func ofTurns(turns ...int64) []int64 {
	l := []int64{1000, 1010}
	step := int64(10)
	for _, d := range turns {
		step += d
		l = append(l, l[len(l)-1]+step)
	}
	return l
}

func refused(t *testing.T, what string, b []byte, n, way int, should api.Errno) {
	t.Helper()
	if l, size, e := Get(b, n, way); e != should || len(l) != 0 || size != 0 {
		t.Errorf("%s: %v, %d, %d; not %d", what, l, size, e, should)
	}
}

func both(t *testing.T, l []int64) {
	t.Helper()
	for way := range 4 {
		b, e := Put(l, way)
		if e != api.OK || !bytes.Equal(b, model(l, way)) {
			t.Fatalf("%v by %d: %x, %d; not %x", l, way, b, e, model(l, way))
		}
		for _, behind := range [][]byte{nil, {0}, {0xFF}, {0x80, 0}, bytes.Repeat([]byte{0xA5}, 30)} {
			m, size, e := Get(slices.Concat(b, behind), len(l), way)
			if e != api.OK || size != len(b) || !slices.Equal(l, m) {
				t.Fatalf("%v by %d ahead of %x: %v, %d, %d", l, way, behind, m, size, e)
			}
		}
		for k := range b {
			refused(t, "cut off", b[:k], len(l), way, api.ErrShort)
		}
	}
}

// P7.1 and P7.2: times are laid as they should be in all four ways, and got again, whatever stands behind.
func TestPutGet(t *testing.T) {
	r := rand.New(rand.NewPCG(7, 1))
	for range 10 {
		for _, n := range []int{0, 1, 2, 3, 4, 10, 64, 199, 200} {
			both(t, some(r, n))
		}
	}
	for _, l := range [][]int64{
		{0}, {-1}, {least}, {most}, {10, 13}, {0, 0}, {0, 0, 0, 0}, {5, 4, 3, 1}, {3, -3, 3}, {1, 2, 4, 8, 16},
		slices.Repeat([]int64{7}, 200),
	} {
		both(t, l)
	}
}

// P7.1 and P7.2: differences, and differences of them, are modulo 2^64.
func TestWrap(t *testing.T) {
	for _, l := range [][]int64{
		{least, most}, {most, least}, {least, most, least}, {most, least, most}, {least, 0, most}, {0, least, 0, most},
		{least, most, most}, {0, most, least, -1}, {most, most, least}, {-1, most, least}, {0, least, most, least + 1},
		{least, most, least, most, least}, {0, 1, least}, {0, -1, most - 1, most - 5},
	} {
		both(t, l)
	}
	if b, e := Put([]int64{most, least}, api.Delta); e != api.OK || !bytes.Equal(b, []byte{0xFE, 255, 255, 255, 255, 255, 255, 255, 255, 1, 1}) {
		t.Error(b, e)
	}
}

// P7.1: the four ways of a few times, byte by byte.
func TestExamples(t *testing.T) {
	for _, c := range []struct {
		l   []int64
		way int
		b   []byte
	}{
		{[]int64{10, 13}, api.Raw, []byte{0, 0, 0, 0, 0, 0, 0, 10, 0, 0, 0, 0, 0, 0, 0, 13}},
		{[]int64{-2}, api.Raw, []byte{255, 255, 255, 255, 255, 255, 255, 254}},
		{[]int64{10, 13}, api.Delta, []byte{0x14, 3}},
		{[]int64{-1, 299}, api.Delta, []byte{1, 0xAC, 2}},
		{[]int64{13, 10}, api.Delta, []byte{26, 0xFD, 255, 255, 255, 255, 255, 255, 255, 255, 1}},
		{[]int64{10}, api.Twice, []byte{0, 0, 0, 0, 0, 0, 0, 10}},
		{[]int64{10, 13}, api.Twice, []byte{0, 0, 0, 0, 0, 0, 0, 10, 0, 0, 0, 0, 0, 0, 0, 3}},
		{[]int64{10, 13, 16}, api.Twice, []byte{0, 0, 0, 0, 0, 0, 0, 10, 0, 0, 0, 0, 0, 0, 0, 3, 0}},
		// Of a turn of -1: bits 10, and seven ones.
		{[]int64{10, 13, 15}, api.Twice, []byte{0, 0, 0, 0, 0, 0, 0, 10, 0, 0, 0, 0, 0, 0, 0, 3, 0b10_111111, 0b1_0000000}},
		{[]int64{10}, api.Packed, []byte{0, 0, 0, 0, 0, 0, 0, 10}},
		{[]int64{10, 13}, api.Packed, []byte{0, 0, 0, 0, 0, 0, 0, 10, 0, 0, 0, 0, 0, 0, 0, 3, 0}},
		{[]int64{10, 13, 16}, api.Packed, []byte{0, 0, 0, 0, 0, 0, 0, 10, 0, 0, 0, 0, 0, 0, 0, 3, 2, 0b00_11_0000}},
	} {
		if b, e := Put(c.l, c.way); e != api.OK || !bytes.Equal(b, c.b) {
			t.Errorf("%v by %d: %x, %d", c.l, c.way, b, e)
		}
	}
}

// P7.1: another way, more than 200, and n beyond 0 to 200 are refused, whatever else is right.
func TestArguments(t *testing.T) {
	many := make([]int64, 1000)
	for _, way := range []int{least, -1, 4, 5, most} {
		for _, l := range [][]int64{nil, {}, {1}, {1, 2}, many[:200], many[:201]} {
			if b, e := Put(l, way); e != api.ErrArg || len(b) != 0 {
				t.Error(len(l), way, b, e)
			}
		}
		for _, n := range []int{-1, 0, 1, 200, 201} {
			refused(t, "another way", make([]byte, 3000), n, way, api.ErrArg)
			refused(t, "another way, and no byte", nil, n, way, api.ErrArg)
		}
	}
	for way := range 4 {
		for _, n := range []int{201, 202, 1000} {
			if b, e := Put(many[:n], way); e != api.ErrArg || len(b) != 0 {
				t.Error(n, way, b, e)
			}
		}
		for _, l := range [][]int64{nil, {}} {
			if b, e := Put(l, way); e != api.OK || len(b) != 0 {
				t.Error(way, b, e)
			}
		}
		for _, n := range []int{least, -1, 201, most} {
			refused(t, "n", nil, n, way, api.ErrArg)
			refused(t, "n", make([]byte, 3000), n, way, api.ErrArg)
		}
		for _, b := range [][]byte{nil, {}, {0x80}, {0x80, 0}, bytes.Repeat([]byte{255}, 20)} {
			if l, size, e := Get(b, 0, way); len(l) != 0 || size != 0 || e != api.OK {
				t.Error(way, b, l, size, e)
			}
		}
	}
}

// P7.1: each bound of Twice's kinds, and one beyond it.
func TestTwiceBounds(t *testing.T) {
	for _, c := range []struct {
		d    int64
		bits int
	}{
		{0, 1}, {1, 9}, {-1, 9}, {63, 9}, {-64, 9}, {64, 12}, {-65, 12}, {255, 12}, {-256, 12}, {256, 16}, {-257, 16},
		{2047, 16}, {-2048, 16}, {2048, 68}, {-2049, 68}, {4095, 68}, {1 << 32, 68}, {-1 << 32, 68}, {most, 68}, {least, 68}, {least + 1, 68},
	} {
		l := ofTurns(c.d)
		b, e := Put(l, api.Twice)
		if e != api.OK || len(b) != 16+(c.bits+7)/8 {
			t.Errorf("%d: %x, %d", c.d, b, e)
		}
		// Eight of them take eight times as many bits, with nothing between them.
		b, e = Put(ofTurns(c.d, c.d, c.d, c.d, c.d, c.d, c.d, c.d), api.Twice)
		if e != api.OK || len(b) != 16+c.bits {
			t.Errorf("%d, eight times: %x, %d", c.d, b, e)
		}
		both(t, l)
		both(t, ofTurns(0, c.d, 0, -c.d, c.d, 1))
	}
}

// twice is the times 5 and 8, and bits behind them.
func twice(pieces ...[]piece) []byte {
	return laid(append([]piece{{5, 64}, {3, 64}}, slices.Concat(pieces...)...)...)
}

// P7.1: bits that Twice would not write; with too few bits that is told, whatever they are.
func TestTwiceForm(t *testing.T) {
	for _, c := range []struct {
		what string
		bad  []piece
	}{
		{"0 in 7", []piece{{0b10, 2}, {0, 7}}},
		{"0 in 9", []piece{{0b110, 3}, {0, 9}}},
		{"63 in 9", []piece{{0b110, 3}, {63, 9}}},
		{"-64 in 9", []piece{{0b110, 3}, {1<<9 - 64, 9}}},
		{"0 in 12", []piece{{0b1110, 4}, {0, 12}}},
		{"1 in 12", []piece{{0b1110, 4}, {1, 12}}},
		{"255 in 12", []piece{{0b1110, 4}, {255, 12}}},
		{"-256 in 12", []piece{{0b1110, 4}, {1<<12 - 256, 12}}},
		{"0 in 64", []piece{{0b1111, 4}, {0, 64}}},
		{"-1 in 64", []piece{{0b1111, 4}, {math.MaxUint64, 64}}},
		{"2047 in 64", []piece{{0b1111, 4}, {2047, 64}}},
		{"-2048 in 64", []piece{{0b1111, 4}, {1<<64 - 2048, 64}}},
	} {
		refused(t, c.what, twice(c.bad), 3, api.Twice, api.ErrForm)
		refused(t, c.what+", among others", twice(turn(0), turn(-65), c.bad, turn(7)), 6, api.Twice, api.ErrForm)
		b := twice(c.bad)
		refused(t, c.what+", cut off", b[:len(b)-1], 3, api.Twice, api.ErrShort)
		refused(t, c.what+", and others are missing", b, 20, api.Twice, api.ErrShort)
	}
	for k := range 7 {
		b := twice(turn(0))
		b[16] |= 1 << k
		refused(t, "a bit behind the last time", b, 3, api.Twice, api.ErrForm)
	}
	// Of bits there are too few, though a byte is there: of the third kind's ones, and of what stands behind them.
	refused(t, "ones alone", twice([]piece{{0, 5}, {0b111, 3}}), 8, api.Twice, api.ErrShort)
	refused(t, "nine values in eight bits", twice([]piece{{0, 8}}), 11, api.Twice, api.ErrShort)
	if l, size, e := Get(twice([]piece{{0, 8}}), 10, api.Twice); len(l) != 10 || size != 17 || e != api.OK {
		t.Error(l, size, e)
	}
}

// P7.1: what varint's Get tells of Delta, from the left.
func TestDeltaWrong(t *testing.T) {
	long := bytes.Repeat([]byte{0x80}, 9)
	for _, c := range []struct {
		b []byte
		n int
		e api.Errno
	}{
		{[]byte{0x80}, 1, api.ErrShort},
		{[]byte{0x80, 0}, 1, api.ErrForm},
		{[]byte{5, 0x80}, 2, api.ErrShort},
		{[]byte{5, 0x81, 0}, 2, api.ErrForm},
		{[]byte{5, 0, 0x80, 0}, 3, api.ErrForm},
		{append(long, 2), 1, api.ErrForm},
		{append([]byte{5}, append(long, 2)...), 2, api.ErrForm},
		{append([]byte{5}, long...), 2, api.ErrShort},
		{[]byte{0x80, 0}, 3, api.ErrForm},
	} {
		refused(t, "Delta", c.b, c.n, api.Delta, c.e)
	}
	if l, size, e := Get([]byte{5, 0, 0, 0x80}, 3, api.Delta); !slices.Equal(l, []int64{-3, -3, -3}) || size != 3 || e != api.OK {
		t.Error(l, size, e)
	}
}

// P7.1: what pack's Get tells of Packed.
func TestPackedWrong(t *testing.T) {
	head := laid(piece{10, 64})
	packed := func(pieces ...piece) []byte { return append(bytes.Clone(head), laid(pieces...)...) }
	refused(t, "65 bits, and short", packed(piece{3, 64}, piece{65, 8}), 3, api.Packed, api.ErrForm)
	refused(t, "64 bits, and short", packed(piece{3, 64}, piece{64, 8}), 3, api.Packed, api.ErrShort)
	refused(t, "65 bits, and no time ahead", laid(piece{3, 56}), 3, api.Packed, api.ErrShort)
	refused(t, "one bit for one difference", packed(piece{3, 64}, piece{1, 8}, piece{0, 1}), 2, api.Packed, api.ErrForm)
	refused(t, "another least one", packed(piece{3, 64}, piece{2, 8}, piece{1, 2}, piece{3, 2}), 3, api.Packed, api.ErrForm)
	refused(t, "a bit behind", packed(piece{3, 64}, piece{2, 8}, piece{0, 2}, piece{3, 2}, piece{1, 4}), 3, api.Packed, api.ErrForm)
	l, size, e := Get(packed(piece{3, 64}, piece{2, 8}, piece{0, 2}, piece{3, 2}), 3, api.Packed)
	if !slices.Equal(l, []int64{10, 13, 16}) || size != 18 || e != api.OK {
		t.Error(l, size, e)
	}
}

// P7.1 and P7.2: whatever bytes are got are Put's of those times.
func TestAnyBytes(t *testing.T) {
	r := rand.New(rand.NewPCG(7, 2))
	right := [4]int{}
	for range 60000 {
		n, way := r.IntN(6), r.IntN(4)
		b, _ := Put(some(r, n), way)
		b = append(b, make([]byte, r.IntN(3))...)
		if len(b) > 0 {
			b[r.IntN(len(b))] ^= 1 << r.IntN(8)
		}
		l, size, e := Get(b, n, way)
		if e != api.OK {
			if e != api.ErrForm && e != api.ErrShort || len(l) != 0 || size != 0 {
				t.Fatalf("%x by %d: %v, %d, %d", b, way, l, size, e)
			}
			continue
		}
		right[way]++
		if len(l) != n || !bytes.Equal(b[:size], model(l, way)) {
			t.Fatalf("%x by %d: %v, %d", b, way, l, size)
		}
	}
	if slices.Min(right[:]) < 1000 {
		t.Errorf("only %d are right", right)
	}
}

// P7.3: what is handed in stays as it is; answers are new memory.
func TestNothingKept(t *testing.T) {
	for way := range 4 {
		l := []int64{5, 7, 10, 99, 99}
		should := model(l[:3], way)
		one, _ := Put(l[:3], way)
		other, _ := Put(l[:3], way)
		for i := range other[:cap(other)] {
			other[:cap(other)][i] = 0x55
		}
		if !slices.Equal(l, []int64{5, 7, 10, 99, 99}) || !bytes.Equal(one, should) {
			t.Fatal(way, l, one)
		}
		n := len(one)
		b := append(bytes.Clone(one), 0x77, 0x77)
		m, _, _ := Get(b[:n], 3, way)
		again, _, _ := Get(b[:n], 3, way)
		if !bytes.Equal(b, append(should, 0x77, 0x77)) {
			t.Error(way, b)
		}
		for i := range m[:cap(m)] {
			m[:cap(m)][i] = 1
		}
		clear(b)
		if !slices.Equal(again, []int64{5, 7, 10}) {
			t.Error(way, again)
		}
	}
}
