package chunk

import (
	"bytes"
	"encoding/binary"
	"math"
	"math/rand/v2"
	"slices"
	"testing"

	"rick/api"
	"rick/bits"
	"rick/pack"
	"rick/runs"
	"rick/times"
	"rick/xors"
)

const least, most = math.MinInt64, math.MaxInt64

// model is the chapter's Encode of samples that are a chunk's.
func model(l []api.Sample, codec int) []byte {
	var ats []int64
	var vals []uint64
	var raw []byte
	for _, s := range l {
		ats = append(ats, s.At)
		vals = append(vals, s.Val)
		raw = binary.BigEndian.AppendUint64(raw, s.Val)
	}
	first, _ := times.Put(ats, codec/4)
	xored, _ := xors.Put(vals)
	run, _ := runs.Put(vals)
	packed, _ := pack.Put(vals)
	second := [][]byte{raw, xored, run, packed}[codec%4]
	return slices.Concat([]byte{byte(codec), 0, byte(len(l))}, first, second)
}

// some is n samples that rise, of one of many shapes.
func some(r *rand.Rand, n int) []api.Sample {
	l := make([]api.Sample, n)
	step, val := uint64(1)<<r.IntN(56), uint64(1)<<r.IntN(64)-1
	l[0] = api.Sample{At: int64(r.Uint64N(1<<62)) - 1<<62, Val: r.Uint64()}
	for i := 1; i < n; i++ {
		l[i] = api.Sample{At: l[i-1].At + 1 + int64(r.Uint64N(step)), Val: l[0].Val + r.Uint64()&val}
		if r.IntN(3) > 0 {
			l[i].Val = l[i-1].Val
		}
	}
	return l
}

// rising is n samples, the first one at a time, each other one a step behind.
func rising(n int, at, step int64) []api.Sample {
	l := make([]api.Sample, n)
	for i := range l {
		l[i] = api.Sample{At: at + int64(i)*step, Val: uint64(i) % 3}
	}
	return l
}

func refused(t *testing.T, what string, b []byte, should api.Errno) {
	t.Helper()
	if l, codec, e := Decode(b); e != should || len(l) != 0 || codec != 0 {
		t.Errorf("%s: %x: %v, %d, %d; not %d", what, b, l, codec, e, should)
	}
}

// both encodes by each codec, and decodes.
func both(t *testing.T, l []api.Sample) {
	t.Helper()
	for codec := range Codecs {
		b, e := Encode(l, codec)
		if e != api.OK || !bytes.Equal(b, model(l, codec)) {
			t.Fatalf("%v by %d: %x, %d", l, codec, b, e)
		}
		m, c, e := Decode(b)
		if e != api.OK || c != codec || !slices.Equal(l, m) {
			t.Fatalf("%v by %d: %v, %d, %d", l, codec, m, c, e)
		}
	}
}

// P10.1: a codec's number, of ways from 0 to 3.
func TestCodec(t *testing.T) {
	seen := 0
	for first := range 4 {
		for second := range 4 {
			if c := Codec(first, second); c != seen {
				t.Error(first, second, c)
			}
			seen++
		}
	}
	if seen != Codecs || Codec(api.Delta, api.Run) != 6 {
		t.Error(seen)
	}
	for _, wrong := range []int{math.MinInt, -4, -1, 4, 5, 16, math.MaxInt} {
		for _, other := range []int{math.MinInt, -1, 0, 1, 2, 3, 4, math.MaxInt} {
			if Codec(wrong, other) != -1 || Codec(other, wrong) != -1 {
				t.Error(wrong, other)
			}
		}
	}
}

// P10.1: what may be a chunk's, and which error comes first.
func TestRight(t *testing.T) {
	falls := rising(201, 0, 1)
	falls[1].At = 0
	late := rising(200, 0, 1)
	late[199].At = late[198].At
	for i, c := range []struct {
		l      []api.Sample
		should api.Errno
	}{
		{nil, api.ErrEmpty},
		{[]api.Sample{}, api.ErrEmpty},
		{make([]api.Sample, 0, 5), api.ErrEmpty},
		{make([]api.Sample, 1), api.OK},
		{rising(1, least, 1), api.OK},
		{rising(1, most, 1), api.OK},
		{rising(200, -100, 1), api.OK},
		{rising(201, -100, 1), api.ErrLarge},
		{falls, api.ErrLarge},
		{make([]api.Sample, 100000), api.ErrLarge},
		{falls[:200], api.ErrOrder},
		{late, api.ErrOrder},
		{late[:199], api.OK},
		{[]api.Sample{{At: 5, Val: 9}, {At: 5, Val: 9}}, api.ErrOrder},
		{[]api.Sample{{At: 5, Val: 1}, {At: 5, Val: 2}}, api.ErrOrder},
		{[]api.Sample{{At: 5}, {At: 4}}, api.ErrOrder},
		{[]api.Sample{{At: 4, Val: 9}, {At: 5, Val: 1}}, api.OK},
		{[]api.Sample{{At: least}, {At: most}}, api.OK},
		{[]api.Sample{{At: least}, {At: -1}, {At: 0}, {At: most}}, api.OK},
		{[]api.Sample{{At: most}, {At: least}}, api.ErrOrder},
		{[]api.Sample{{At: least}, {At: least}}, api.ErrOrder},
		{[]api.Sample{{At: most}, {At: most}}, api.ErrOrder},
		{[]api.Sample{{At: 1}, {At: 3}, {At: 2}}, api.ErrOrder},
		{[]api.Sample{{At: -1}, {At: -2}}, api.ErrOrder},
	} {
		if e := Right(c.l); e != c.should {
			t.Errorf("%d: %d, not %d", i, e, c.should)
		}
		if c.should == api.OK {
			continue
		}
		for codec := range Codecs {
			if b, e := Encode(c.l, codec); e != c.should || len(b) != 0 {
				t.Errorf("%d by %d: %x, %d, not %d", i, codec, b, e, c.should)
			}
		}
		for _, codec := range []int{math.MinInt, -1, 16, 17, 256, 262, math.MaxInt} {
			if b, e := Encode(c.l, codec); e != api.ErrArg || len(b) != 0 {
				t.Errorf("%d by %d: %x, %d", i, codec, b, e)
			}
		}
		if codec, e := Best(c.l); e != c.should || codec != 0 {
			t.Errorf("%d: %d, %d, not %d", i, codec, e, c.should)
		}
	}
}

// P10.1: the chapter's example, and the same samples by all other codecs.
func TestBytes(t *testing.T) {
	l := []api.Sample{{At: 10, Val: 7}, {At: 13, Val: 7}}
	firsts := []string{
		"\x00\x00\x00\x00\x00\x00\x00\x0A\x00\x00\x00\x00\x00\x00\x00\x0D",
		"\x14\x03",
		"\x00\x00\x00\x00\x00\x00\x00\x0A\x00\x00\x00\x00\x00\x00\x00\x03",
		"\x00\x00\x00\x00\x00\x00\x00\x0A\x00\x00\x00\x00\x00\x00\x00\x03\x00",
	}
	seconds := []string{
		"\x00\x00\x00\x00\x00\x00\x00\x07\x00\x00\x00\x00\x00\x00\x00\x07",
		"\x00\x00\x00\x00\x00\x00\x00\x07\x00",
		"\x02\x07",
		"\x00\x00\x00\x00\x00\x00\x00\x07\x00",
	}
	for codec := range Codecs {
		should := string([]byte{byte(codec), 0, 2}) + firsts[codec/4] + seconds[codec%4]
		if b, e := Encode(l, codec); e != api.OK || string(b) != should {
			t.Errorf("%d: %x, %d", codec, b, e)
		}
	}
	if b, e := Encode(l, 6); e != api.OK || !bytes.Equal(b, []byte{6, 0, 2, 0x14, 3, 2, 7}) {
		t.Errorf("%x, %d", b, e)
	}
	raw := []api.Sample{{At: -2, Val: 0x0102030405060708}}
	if b, e := Encode(raw, 0); e != api.OK || string(b) != "\x00\x00\x01\xFF\xFF\xFF\xFF\xFF\xFF\xFF\xFE\x01\x02\x03\x04\x05\x06\x07\x08" {
		t.Errorf("%x, %d", b, e)
	}
	for _, codec := range []int{math.MinInt, -16, -1, 16, 17, 22, 256, math.MaxInt} {
		if b, e := Encode(l, codec); e != api.ErrArg || len(b) != 0 {
			t.Error(codec, b, e)
		}
	}
}

// P10.1 and P10.2 (P4): samples of all counts and shapes are encoded as they should be, and decoded again.
func TestEncodeDecode(t *testing.T) {
	r := rand.New(rand.NewPCG(10, 1))
	for n := 1; n <= 200; n++ {
		both(t, some(r, n))
	}
	for range 2000 {
		both(t, some(r, 1+r.IntN(12)))
	}
	for _, l := range [][]api.Sample{
		{{At: 0, Val: 0}},
		{{At: least, Val: math.MaxUint64}},
		{{At: most, Val: 1 << 63}},
		{{At: least, Val: 0}, {At: most, Val: math.MaxUint64}},
		{{At: least, Val: math.MaxUint64}, {At: least + 1, Val: 0}, {At: most - 1, Val: 1}, {At: most, Val: 1 << 63}},
		{{At: -1, Val: 5}, {At: 0, Val: 5}, {At: 1, Val: 5}},
		rising(200, least, 1), rising(200, most-199, 1), rising(200, -100, 1<<50), rising(200, least, 1<<56),
	} {
		both(t, l)
	}
}

// P10.1: bytes that end too early are ErrShort, wherever; one more behind is ErrForm.
func TestCut(t *testing.T) {
	r := rand.New(rand.NewPCG(10, 2))
	for codec := range Codecs {
		for _, l := range [][]api.Sample{some(r, 1), some(r, 2), some(r, 3), some(r, 9), some(r, 200), rising(200, 5, 10)} {
			b := model(l, codec)
			for k := range b {
				refused(t, "cut off", b[:k:k], api.ErrShort)
			}
			for _, behind := range [][]byte{{0}, {1}, {0xFF}, {0, 0}, make([]byte, 500), b} {
				refused(t, "more behind", slices.Concat(b, behind), api.ErrForm)
			}
		}
	}
	refused(t, "no byte", nil, api.ErrShort)
	refused(t, "no byte", []byte{}, api.ErrShort)
}

// P10.1: a head that is none's; with less than a head there are too few bytes, whatever they are.
func TestHead(t *testing.T) {
	for _, codec := range []byte{0, 6, 15, 16, 17, 255} {
		refused(t, "a codec alone", []byte{codec}, api.ErrShort)
		refused(t, "a codec and half a count", []byte{codec, 0}, api.ErrShort)
		refused(t, "a codec and half a count", []byte{codec, 255}, api.ErrShort)
	}
	for codec := range Codecs {
		refused(t, "a head alone", []byte{byte(codec), 0, 1}, api.ErrShort)
		refused(t, "a head alone", []byte{byte(codec), 0, 200}, api.ErrShort)
		refused(t, "no sample", []byte{byte(codec), 0, 0}, api.ErrForm)
		refused(t, "no sample, and a byte", []byte{byte(codec), 0, 0, 0}, api.ErrForm)
		refused(t, "201", []byte{byte(codec), 0, 201}, api.ErrForm)
		refused(t, "65535", []byte{byte(codec), 255, 255}, api.ErrForm)
		for _, n := range [][2]byte{{0, 0}, {0, 201}, {0, 255}, {1, 0}, {1, 1}, {1, 3}, {255, 3}, {255, 255}} {
			b := model(rising(3, 7, 2), codec)
			b[1], b[2] = n[0], n[1]
			refused(t, "a wrong count", b, api.ErrForm)
			refused(t, "a wrong count, and many bytes", append(b, make([]byte, 4000)...), api.ErrForm)
		}
	}
	for _, codec := range []byte{16, 17, 22, 32, 128, 255} {
		b := model(rising(3, 7, 2), 6)
		b[0] = codec
		refused(t, "a codec that there isn't", b, api.ErrForm)
		refused(t, "a codec that there isn't, alone", b[:3], api.ErrForm)
		refused(t, "a codec that there isn't, and no count", []byte{codec, 0, 0}, api.ErrForm)
	}
}

// P10.1: a count that is one too great or one too small.
func TestCount(t *testing.T) {
	l := []api.Sample{{At: 10, Val: 7}, {At: 13, Val: 8}, {At: 17, Val: 100}}
	for codec := range Codecs {
		small, great := model(l, codec), model(l, codec)
		small[2], great[2] = 2, 4
		if codec/4 == api.Raw || codec/4 == api.Delta {
			refused(t, "too small", small, api.ErrForm)
		}
		if codec/4 == api.Raw || codec%4 == api.Raw {
			refused(t, "too great", great, api.ErrShort)
		}
	}
	// The first run's length is taken as a time's difference, and its value as a run's length, which is too great.
	b := model(l, Codec(api.Delta, api.Run))
	b[2] = 4
	refused(t, "too great", b, api.ErrForm)
	b = model(rising(200, 0, 1), 0)
	b[2] = 199
	refused(t, "199 of 200", b, api.ErrForm)
	b[2] = 201
	refused(t, "201 of 200", b, api.ErrForm)
	refused(t, "201 of 201", append(b, make([]byte, 16)...), api.ErrForm)
}

// P10.1: noughts at a byte's end are samples as well, if the count says so.
func TestOtherCount(t *testing.T) {
	l := rising(7, 10, 4)
	for i := range l {
		l[i].Val = 8
	}
	codec := Codec(api.Twice, api.Xor)
	b := model(l[:3], codec)
	for n := 2; n <= 7; n++ {
		b[2] = byte(n)
		m, c, e := Decode(b)
		if n == 2 {
			refused(t, "too small", b, api.ErrForm)
		} else if e != api.OK || c != codec || !slices.Equal(m, l[:n]) || !bytes.Equal(b, model(m, c)) {
			t.Error(n, m, c, e)
		}
	}
}

// laid is a head, times and values as bytes.
func laid(codec, n int, parts ...[]byte) []byte {
	return slices.Concat([]byte{byte(codec), 0, byte(n)}, slices.Concat(parts...))
}

// P10.1: times that don't rise are none's; but values that end too early are told ahead.
func TestNoRise(t *testing.T) {
	vals := []uint64{3, 3, 4}
	raw := []byte{0, 0, 0, 0, 0, 0, 0, 3, 0, 0, 0, 0, 0, 0, 0, 3, 0, 0, 0, 0, 0, 0, 0, 4}
	xored, _ := xors.Put(vals)
	run, _ := runs.Put(vals)
	packed, _ := pack.Put(vals)
	for _, ats := range [][]int64{{5, 5, 6}, {5, 6, 6}, {5, 4, 6}, {6, 7, 5}, {most, least, 0}, {0, most, least}, {least, 0, -1}} {
		for first := range 4 {
			b, _ := times.Put(ats, first)
			for second, v := range [][]byte{raw, xored, run, packed} {
				codec := Codec(first, second)
				refused(t, "no rise", laid(codec, 3, b, v), api.ErrForm)
				refused(t, "no rise, and too short", laid(codec, 3, b, v[:len(v)-1]), api.ErrShort)
				refused(t, "no rise, and no value", laid(codec, 3, b), api.ErrShort)
				refused(t, "no rise, and too long", laid(codec, 3, b, v, []byte{0}), api.ErrForm)
			}
		}
	}
}

// number is a number in so many bits.
type number struct {
	v uint64
	n int
}

// side is numbers side by side, as bytes.
func side(l ...number) []byte {
	var w bits.Writer
	for _, p := range l {
		w.Put(p.v, p.n)
	}
	return w.Bytes()
}

// P10.1: bits that Encode would not write, in times and in values.
func TestForm(t *testing.T) {
	raw := []byte{0, 0, 0, 0, 0, 0, 0, 3, 0, 0, 0, 0, 0, 0, 0, 3, 0, 0, 0, 0, 0, 0, 0, 4}
	first := side(number{5, 64})
	for _, c := range []struct {
		what string
		way  int
		ats  []byte
	}{
		{"a long number", api.Delta, []byte{0x8A, 0, 1, 1}},
		{"a number beyond 64 bits", api.Delta, []byte{10, 0xFF, 0xFF, 0xFF, 0xFF, 0xFF, 0xFF, 0xFF, 0xFF, 0xFF, 2, 1}},
		{"nought, wide", api.Twice, side(number{5, 64}, number{1, 64}, number{0b10, 2}, number{0, 7})},
		{"one, wider", api.Twice, side(number{5, 64}, number{1, 64}, number{0b1111, 4}, number{1, 64})},
		{"bits behind", api.Twice, side(number{5, 64}, number{1, 64}, number{0b01, 2})},
		{"65 bits", api.Packed, slices.Concat(first, side(number{1, 64}, number{65, 8}), make([]byte, 100))},
		{"a bit too many", api.Packed, slices.Concat(first, side(number{1, 64}, number{2, 8}, number{0, 2}, number{1, 2}))},
	} {
		refused(t, c.what, laid(Codec(c.way, api.Raw), 3, c.ats, raw), api.ErrForm)
	}
	for _, c := range []struct {
		what string
		way  int
		vals []byte
	}{
		{"a nought too few", api.Xor, side(number{3, 64}, number{0, 1}, number{1, 1}, number{60, 6}, number{3, 6}, number{7, 4})},
		{"bits behind", api.Xor, side(number{3, 64}, number{0b001, 3})},
		{"a run of none", api.Run, []byte{0, 3, 3, 3}},
		{"a run of too many", api.Run, []byte{4, 3}},
		{"a run in two", api.Run, []byte{1, 3, 2, 3}},
		{"a long number", api.Run, []byte{0x83, 0, 3}},
		{"another least one", api.Packed, side(number{2, 64}, number{1, 8}, number{0b111, 3})},
		{"bits behind", api.Packed, side(number{3, 64}, number{1, 8}, number{0b00101, 5})},
	} {
		refused(t, c.what, laid(Codec(api.Delta, c.way), 3, []byte{10, 1, 1}, c.vals), api.ErrForm)
	}
	refused(t, "wrong times, and no value", laid(Codec(api.Delta, api.Raw), 3, []byte{0x8A, 0, 1, 1}), api.ErrForm)
}

// P4, P10.1, P1: whatever bytes are decoded are those of their samples, and no bytes bring a panic.
func TestAnyBytes(t *testing.T) {
	r := rand.New(rand.NewPCG(10, 3))
	var right [Codecs]int
	for range 60000 {
		b := model(some(r, 1+r.IntN(5)), r.IntN(Codecs))
		for range r.IntN(3) {
			b[r.IntN(len(b))] ^= 1 << r.IntN(8)
		}
		if r.IntN(8) == 0 {
			b = slices.Insert(b, r.IntN(len(b)), byte(r.IntN(256)))
		}
		l, codec, e := Decode(b)
		if e != api.OK {
			if e != api.ErrForm && e != api.ErrShort || len(l) != 0 || codec != 0 {
				t.Fatalf("%x: %v, %d, %d", b, l, codec, e)
			}
			continue
		}
		right[codec]++
		if Right(l) != api.OK || !bytes.Equal(b, model(l, codec)) {
			t.Fatalf("%x: %v, %d", b, l, codec)
		}
	}
	if slices.Min(right[:]) < 500 {
		t.Errorf("only %d are right", right)
	}
	for range 60000 {
		b := make([]byte, r.IntN(40))
		for i := range b {
			b[i] = byte(r.IntN(256) >> (r.IntN(2) * r.IntN(8)))
		}
		if len(b) > 2 {
			b[0], b[1], b[2] = b[0]%18, 0, b[2]%6
		}
		l, codec, e := Decode(b)
		if e == api.OK && !bytes.Equal(b, model(l, codec)) {
			t.Fatalf("%x: %v, %d", b, l, codec)
		}
	}
}

// best is the least codec of those with the fewest bytes.
func best(l []api.Sample) int {
	c := 0
	for codec := range Codecs {
		if len(model(l, codec)) < len(model(l, c)) {
			c = codec
		}
	}
	return c
}

// P10.1: Best's codec has the fewest bytes, and is the least such one.
func TestBest(t *testing.T) {
	r := rand.New(rand.NewPCG(10, 4))
	for range 3000 {
		l := some(r, 1+r.IntN(40))
		if codec, e := Best(l); codec != best(l) || e != api.OK {
			t.Fatalf("%v: %d, %d; not %d", l, codec, e, best(l))
		}
	}
	for _, c := range []struct {
		what   string
		l      []api.Sample
		should int
	}{
		{"the chapter's", []api.Sample{{At: 10, Val: 7}, {At: 13, Val: 7}}, 6},
		{"0, 1, 8, 9, 12 and 13 are alike", []api.Sample{{At: least, Val: math.MaxUint64}}, 0},
		{"4 and 5 are alike", []api.Sample{{At: 3, Val: math.MaxUint64}}, 4},
		{"2, 10 and 14 are alike", []api.Sample{{At: most, Val: 3}}, 2},
		{"9 and 11 are alike", []api.Sample{{At: least, Val: math.MaxUint64}, {At: least + 1<<60, Val: math.MaxUint64}}, 1},
		{"200 alike", rising(200, 1<<40, 1<<30), best(rising(200, 1<<40, 1<<30))},
	} {
		if codec, e := Best(c.l); codec != c.should || e != api.OK {
			t.Errorf("%s: %d, %d; not %d", c.what, codec, e, c.should)
		}
	}
}

// P10.1: there are samples of which each codec is the best.
func TestEachIsBest(t *testing.T) {
	r := rand.New(rand.NewPCG(10, 5))
	const n = 50
	at := [][]int64{make([]int64, n), make([]int64, n), make([]int64, n), make([]int64, n)}
	val := [][]uint64{make([]uint64, n), make([]uint64, n), make([]uint64, n), make([]uint64, n)}
	for i := range n {
		k := int64(i)
		at[api.Raw][i] = least + k<<58 + int64(r.Uint64N(1<<58))
		at[api.Delta][i] = k*40 + int64(r.IntN(20))*(k%2)
		at[api.Twice][i] = k << 30
		at[api.Packed][i] = 1<<50 + k<<15 - int64(r.IntN(1<<14))
		val[api.Raw][i] = r.Uint64()
		val[api.Xor][i] = uint64(i%2) << 63
		val[api.Run][i] = uint64(i/25) << 20
		val[api.Packed][i] = 1<<60 + r.Uint64N(1<<9)
	}
	at[api.Raw][n-1] = most
	for codec := range Codecs {
		var l []api.Sample
		for i, t := range at[codec/4] {
			l = append(l, api.Sample{At: t, Val: val[codec%4][i]})
		}
		if c, e := Best(l); e != api.OK || c != codec || best(l) != codec {
			t.Errorf("%d: %d, %d; not %d", codec, c, e, best(l))
		}
	}
}

// P10.3: what is handed in stays as it is, its spare room too; answers are new memory.
func TestNothingKept(t *testing.T) {
	whole := []api.Sample{{At: 1, Val: 5}, {At: 4, Val: 5}, {At: 5, Val: 9}, {At: 99, Val: 99}, {At: 99, Val: 99}}
	same := slices.Clone(whole)
	for codec := range Codecs {
		should := model(same[:3], codec)
		one, _ := Encode(whole[:3], codec)
		other, _ := Encode(whole[:3], codec)
		for i := range other[:cap(other)] {
			other[:cap(other)][i] = 0x55
		}
		if !bytes.Equal(one, should) {
			t.Fatal(codec, one)
		}
		b := append(bytes.Clone(one), 0x77, 0x77)
		l, _, _ := Decode(b[:len(one)])
		again, _, _ := Decode(b[:len(one)])
		if !bytes.Equal(b, append(should, 0x77, 0x77)) {
			t.Error(codec, b)
		}
		for i := range l[:cap(l)] {
			l[:cap(l)][i] = api.Sample{At: 8, Val: 8}
		}
		clear(b)
		if !slices.Equal(again, same[:3]) {
			t.Error(codec, again)
		}
	}
	Best(whole[:3])
	Right(whole[:3])
	if !slices.Equal(whole, same) {
		t.Error(whole)
	}
}
