package times

import (
	"rick/api"
	"rick/bits"
)

// kind is a way in which Twice lays a difference of differences: so many bits 1 that tell it, and so many bits behind them.
type kind struct{ ones, bits int }

// wide is the kind of all differences that no other one has room for: so many ones, and no bit 0 behind them.
const wide = 4

// kinds are the others, which end with a bit 0; the first one of them that has room is taken.
var kinds = [wide]kind{{0, 0}, {1, 7}, {2, 9}, {3, 12}}

func putTwice(l []int64) []byte {
	var w bits.Writer
	w.Put(uint64(l[0]), timeBits)
	if len(l) == 1 {
		return w.Bytes()
	}
	step := l[1] - l[0]
	w.Put(uint64(step), timeBits)
	for i := 2; i < len(l); i++ {
		next := l[i] - l[i-1]
		putTurn(&w, next-step)
		step = next
	}
	return w.Bytes()
}

// putTurn lays a difference of differences.
func putTurn(w *bits.Writer, d int64) {
	for _, k := range kinds {
		if signed(uint64(d), k.bits) == d {
			// The ones, and a 0 behind them.
			w.Put(1<<(k.ones+1)-2, k.ones+1)
			w.Put(uint64(d), k.bits)
			return
		}
	}
	w.Put(1<<wide-1, wide)
	w.Put(uint64(d), timeBits)
}

func getTwice(b []byte, n int) ([]int64, int, api.Errno) {
	r := bits.New(b)
	l := []int64{int64(r.Take(timeBits))}
	var step int64
	for i := range n - 1 {
		if i == 0 {
			step = int64(r.Take(timeBits))
		} else {
			step += takeTurn(r)
		}
		l = append(l, l[i]+step)
	}
	return taken(l, b, r)
}

// takeTurn is a difference of differences.
func takeTurn(r *bits.Reader) int64 {
	ones := 0
	for ones < wide && r.Take(1) == 1 {
		ones++
	}
	if ones == wide {
		return int64(r.Take(timeBits))
	}
	n := kinds[ones].bits
	return signed(r.Take(n), n)
}

// signed is the lowest n bits of a number as one with a sign.
func signed(v uint64, n int) int64 {
	return int64(v<<(timeBits-n)) >> (timeBits - n)
}
