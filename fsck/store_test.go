package fsck

import (
	"bytes"
	"math/rand/v2"
	"slices"
	"testing"

	"rick/api"
	"rick/chunk"
	"rick/disk"
	"rick/edit"
	"rick/store"
)

// wantSound looks whether nothing is wrong with a disk's image.
func wantSound(t *testing.T, what string, d *disk.Disk) {
	t.Helper()
	if l, e := Check(d.Image()); len(l) != 0 || e != api.OK {
		t.Fatalf("%s: %v, %d", what, l, e)
	}
}

// P19.3: stores without anything, with one chunk, with more and more till they are full, with less and less, and formatted again.
func TestStates(t *testing.T) {
	for _, pages := range []int{8, 9, 30, 64, 200, 512} {
		for _, n := range []int{1, 17, 200} {
			s, d := formatted(t, pages)
			wantSound(t, "formatted", d)
			var starts []int64
			for k := range int64(1000) {
				at := k * 7919 % 1009 * 1000
				if e := s.Append(int(k%3), int(k%chunk.Codecs), samples(n, at)); e != api.OK {
					want(t, "Append", e, api.ErrFull)
					break
				}
				starts = append(starts, at)
				wantSound(t, "Append", d)
			}
			wantSound(t, "full", d)
			wantRight(t, "full", d.Image())
			for k, at := range starts {
				if k%2 == 0 {
					continue
				}
				if e := s.Delete(k%3, at+1, at+900); e != api.OK && e != api.ErrNone {
					want(t, "Delete", e, api.ErrFull)
				}
				wantSound(t, "Delete of a part", d)
			}
			for series := range 3 {
				if e := s.Delete(series, least, most); e != api.OK && e != api.ErrNone {
					want(t, "Delete", e, api.ErrFull)
				}
				wantSound(t, "Delete of all", d)
			}
			_, e := store.Format(d)
			want(t, "Format", e, api.OK)
			wantSound(t, "formatted again", d)
		}
	}
}

// act is something random that a Store is told.
func act(r *rand.Rand, s *store.Store) api.Errno {
	series, codec := r.IntN(3), r.IntN(chunk.Codecs)
	at := int64(r.IntN(50) * 100)
	from := at + int64(r.IntN(200)-50)
	to := from + int64(r.IntN(400)-20)
	list := func() []api.Sample { return samples(1+r.IntN(1+r.IntN(60)), int64(r.IntN(60)*100)) }
	switch r.IntN(9) {
	case 0:
		return s.Delete(series, from, to)
	case 1:
		return edit.Recompress(s, series, codec-1)
	case 2:
		return edit.Compact(s, series, 1+r.IntN(200), codec-1)
	case 3:
		return s.Replace(series, [][]api.Sample{list(), list()}, []int{codec, 15 - codec})
	case 4:
		return s.Batch([]store.Op{
			{Put: true, Series: series, Codec: codec, Samples: list()},
			{Series: series, From: from, To: to},
			{Put: true, Series: (series + 1) % 3, Codec: codec, Samples: list()},
		})
	}
	return s.Append(series, codec, list())
}

// P19.3: random lives, on disks with much room and with little, in which power goes now and then, in a change and between two.
func TestLives(t *testing.T) {
	for seed := range uint64(40) {
		t.Run("", func(t *testing.T) {
			t.Parallel()
			r := rand.New(rand.NewPCG(19, seed))
			s, d := formatted(t, 8+r.IntN(200))
			stops := 0
			for range 80 {
				if r.IntN(6) == 0 {
					d.Fail(r.IntN(60))
				}
				e := act(r, s)
				wantSound(t, "behind a change", d)
				if e != api.ErrStop && r.IntN(10) > 0 {
					continue
				}
				if e == api.ErrStop {
					stops++
				}
				all := ways(r, d.Waiting())
				d.Crash(all[r.IntN(len(all))])
				wantSound(t, "behind a crash", d)
				s = opened(t, d)
				wantSound(t, "behind Open", d)
				wantRight(t, "behind Open", d.Image())
			}
			if stops == 0 {
				t.Error("never")
			}
		})
	}
}

// P19.3: wherever power goes in a change, and whatever is kept of what waits.
func TestPower(t *testing.T) {
	seen := map[api.Errno]int{}
	for seed := range uint64(12) {
		// What is there, laid in some changes, and one change more.
		r := rand.New(rand.NewPCG(19, seed))
		s, d := formatted(t, 60+r.IntN(60))
		for range 12 {
			act(r, s)
		}
		image := d.Image()
		for steps := 0; ; steps++ {
			// The same change each time.
			change := func() (*disk.Disk, api.Errno) {
				d := loaded(t, image)
				s := opened(t, d)
				d.Fail(steps)
				return d, act(rand.New(rand.NewPCG(20, seed)), s)
			}
			d, e := change()
			seen[e]++
			if e != api.ErrStop {
				wantSound(t, "done", d)
				break
			}
			for _, fates := range ways(r, d.Waiting()) {
				d, _ := change()
				wantSound(t, "dark", d)
				d.Crash(fates)
				wantSound(t, "power again", d)
				s := opened(t, d)
				wantSound(t, "opened", d)
				act(rand.New(rand.NewPCG(20, seed)), s)
				wantSound(t, "changed", d)
			}
		}
	}
	if seen[api.OK] < 6 || seen[api.ErrStop] < 200 {
		t.Error(seen)
	}
}

// P19.3: power that goes in Format of a disk of noughts: nothing is there, or a Store is.
func TestPowerFormat(t *testing.T) {
	r := rand.New(rand.NewPCG(19, 1))
	none, sound := 0, 0
	for steps := 0; ; steps++ {
		d := loaded(t, make([]byte, 16*256))
		d.Fail(steps)
		_, e := store.Format(d)
		if e == api.OK {
			wantSound(t, "formatted", d)
			break
		}
		for _, fates := range ways(r, d.Waiting()) {
			d := loaded(t, make([]byte, 16*256))
			d.Fail(steps)
			store.Format(d)
			d.Crash(fates)
			l, e := Check(d.Image())
			want(t, "Check", e, api.OK)
			switch {
			case len(l) == 0:
				wantRight(t, "a part", d.Image())
				sound++
			case slices.Equal(l, []Defect{{NoSuper, 0}}):
				none++
			default:
				t.Error(steps, l)
			}
		}
	}
	if none == 0 || sound == 0 {
		t.Error(none, sound)
	}
}

// P19.1: of a Store's image each byte is turned: what stands in its page tells it, or an older generation counts.
func TestTurned(t *testing.T) {
	r := rand.New(rand.NewPCG(19, 2))
	s, d := formatted(t, 45)
	for k := range 20 {
		want(t, "Append", s.Append(k%2, k%chunk.Codecs, samples(1+k, int64(100*k))), api.OK)
	}
	image := d.Image()
	older := 0
	kinds := map[int]int{}
	for at := range image {
		bent := turned(image, at, r.IntN(8))
		l, e := Check(bent)
		want(t, "Check", e, api.OK)
		if len(l) == 0 {
			wantRight(t, "sound still", bent)
			older++
			continue
		}
		// A chunk of two pages is told by its first one.
		if addr := at / 256; l[0].Addr != addr && l[0] != (Defect{BadChunk, addr - 1}) || len(l) > 1 && l[0].Kind != BadNode {
			t.Error(at, l)
		}
		for _, x := range l[1:] {
			if x.Kind != Leaked {
				t.Error(at, l)
			}
		}
		kinds[l[0].Kind]++
	}
	if kinds[BadBitmap] != 256 || kinds[BadNode] != 5*256 && kinds[BadNode] != 4*256 || kinds[BadChunk] == 0 || older < 2*256 {
		t.Error(kinds, older)
	}
	if !bytes.Equal(image, d.Image()) {
		t.Error("changed")
	}
}
