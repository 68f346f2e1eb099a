package disk

import (
	"bytes"
	"math"
	"math/rand/v2"
	"testing"

	"rick/api"
)

// fresh is a disk of so many pages.
func fresh(t *testing.T, pages int) *Disk {
	t.Helper()
	d, e := New(pages)
	if e != api.OK || d == nil {
		t.Fatalf("New(%d): %v, %d", pages, d, e)
	}
	return d
}

// full is a sector of one byte.
func full(c byte) []byte {
	return bytes.Repeat([]byte{c}, api.SectorSize)
}

// want holds an answer against the one that should be.
func want(t *testing.T, what string, got, should api.Errno) {
	t.Helper()
	if got != should {
		t.Errorf("%s: %d, not %d", what, got, should)
	}
}

// holds tells whether a sector is read as these bytes.
func holds(t *testing.T, d *Disk, i int, b []byte) {
	t.Helper()
	got, e := d.Read(i)
	if e != api.OK || !bytes.Equal(got, b) {
		t.Errorf("sector %d: %v, %d; not %v", i, got, e, b)
	}
}

// P1.1: how many pages there may be, and what a new disk is like.
func TestNew(t *testing.T) {
	for _, pages := range []int{8, 9, 64, 511, 512} {
		d := fresh(t, pages)
		if d.Pages() != pages || !d.On() || d.Waiting() != 0 {
			t.Errorf("%d: %d pages, %v, %d wait", pages, d.Pages(), d.On(), d.Waiting())
		}
		if !bytes.Equal(d.Image(), make([]byte, pages*256)) {
			t.Errorf("%d: no noughts", pages)
		}
		holds(t, d, 0, full(0))
		holds(t, d, pages*4-1, full(0))
	}
	for _, pages := range []int{math.MinInt, -8, -1, 0, 1, 7, 513, 1 << 20, math.MaxInt} {
		if d, e := New(pages); d != nil || e != api.ErrArg {
			t.Errorf("New(%d): %v, %d", pages, d, e)
		}
	}
}

// P1.1: which images are a disk's.
func TestLoad(t *testing.T) {
	for _, pages := range []int{8, 9, 512} {
		image := make([]byte, pages*256)
		for i := range image {
			image[i] = byte(i/64 + i)
		}
		d, e := Load(image)
		if e != api.OK || d.Pages() != pages || !d.On() || d.Waiting() != 0 {
			t.Fatalf("Load of %d pages: %d", pages, e)
		}
		if !bytes.Equal(d.Image(), image) {
			t.Errorf("%d: another image", pages)
		}
		for i := range pages * 4 {
			holds(t, d, i, image[i*64:i*64+64])
		}
		want(t, "Write", d.Write(0, full(1)), api.OK)
	}
	for _, n := range []int{0, 1, 64, 7 * 256, 2047, 2049, 8*256 + 64, 512*256 - 1, 512*256 + 1, 513 * 256} {
		if d, e := Load(make([]byte, n)); d != nil || e != api.ErrArg {
			t.Errorf("Load of %d bytes: %v, %d", n, d, e)
		}
	}
	if d, e := Load(nil); d != nil || e != api.ErrArg {
		t.Errorf("Load of nothing: %v, %d", d, e)
	}
}

// P1.1: what is written is read, and waits until it is flushed.
func TestWriteFlush(t *testing.T) {
	d := fresh(t, 8)
	want(t, "Write", d.Write(0, full(1)), api.OK)
	want(t, "Write", d.Write(31, full(2)), api.OK)
	want(t, "Write", d.Write(0, full(3)), api.OK)
	if d.Waiting() != 3 {
		t.Errorf("%d wait", d.Waiting())
	}
	holds(t, d, 0, full(3))
	holds(t, d, 31, full(2))
	holds(t, d, 1, full(0))
	if !bytes.Equal(d.Image(), make([]byte, 2048)) {
		t.Error("what waits is there to stay")
	}
	want(t, "Flush", d.Flush(), api.OK)
	image := make([]byte, 2048)
	copy(image, full(3))
	copy(image[31*64:], full(2))
	if d.Waiting() != 0 || !bytes.Equal(d.Image(), image) {
		t.Errorf("flushed: %d wait", d.Waiting())
	}
	d.Crash([]Fate{{true, 255}})
	if !bytes.Equal(d.Image(), image) {
		t.Error("what was flushed hasn't stayed")
	}
	want(t, "Flush of nothing", d.Flush(), api.OK)
}

// P1.1: what is refused changes nothing, and isn't a step.
func TestRefused(t *testing.T) {
	d := fresh(t, 8)
	d.Write(3, full(7))
	d.Fail(1)
	for _, i := range []int{math.MinInt, -1, 32, 33, 1 << 58, math.MaxInt} {
		if b, e := d.Read(i); b != nil || e != api.ErrArg {
			t.Errorf("Read(%d): %v, %d", i, b, e)
		}
		want(t, "no such sector", d.Write(i, full(1)), api.ErrArg)
	}
	for _, n := range []int{0, 1, 8, 63, 65, 128, 256} {
		want(t, "no sector's bytes", d.Write(3, make([]byte, n)), api.ErrArg)
	}
	want(t, "nothing", d.Write(3, nil), api.ErrArg)
	holds(t, d, 3, full(7))
	if d.Waiting() != 1 || !d.On() || !bytes.Equal(d.Image(), make([]byte, 2048)) {
		t.Error("what is refused changed something")
	}
	want(t, "first step", d.Write(0, full(1)), api.OK)
	want(t, "still refused", d.Write(0, nil), api.ErrArg)
	want(t, "second step", d.Write(0, full(2)), api.ErrStop)
	want(t, "without power", d.Write(-1, nil), api.ErrStop)
}

// P1.1: the step behind so many isn't done, be it a Write or a Flush.
func TestFail(t *testing.T) {
	for steps := range 7 {
		d := fresh(t, 8)
		d.Fail(steps)
		for k := range 7 {
			should := api.OK
			if k >= steps {
				should = api.ErrStop
			}
			if k%3 == 2 {
				want(t, "Flush", d.Flush(), should)
			} else {
				want(t, "Write", d.Write(k, full(byte(k+1))), should)
			}
			d.Read(0)
			if d.On() != (k < steps) {
				t.Errorf("Fail(%d), step %d: power %v", steps, k, d.On())
			}
		}
		waiting := [7]int{0, 1, 2, 0, 1, 2, 0}[steps]
		if d.Waiting() != waiting {
			t.Errorf("Fail(%d): %d wait, not %d", steps, d.Waiting(), waiting)
		}
		d.Crash([]Fate{{true, 255}, {true, 255}})
		for k := range 7 {
			c := byte(0)
			if k < steps && k%3 != 2 {
				c = byte(k + 1)
			}
			holds(t, d, k, full(c))
		}
	}
}

// P1.1: below 0 power doesn't go; each Fail stands in place of the one ahead.
func TestFailAnew(t *testing.T) {
	for _, steps := range []int{-1, -2, math.MinInt, math.MaxInt} {
		d := fresh(t, 8)
		d.Fail(0)
		d.Fail(steps)
		for range 20 {
			want(t, "Write", d.Write(0, full(1)), api.OK)
			want(t, "Flush", d.Flush(), api.OK)
		}
	}
	d := fresh(t, 8)
	d.Fail(-1)
	d.Fail(5)
	d.Fail(2)
	want(t, "Write", d.Write(0, full(1)), api.OK)
	d.Fail(1)
	want(t, "Flush", d.Flush(), api.OK)
	want(t, "Flush", d.Flush(), api.ErrStop)
}

// P1.1: without power only Crash, On, Pages, Waiting and Image do what they do.
func TestNoPower(t *testing.T) {
	d := fresh(t, 9)
	d.Write(0, full(1))
	d.Flush()
	d.Write(0, full(2))
	d.Fail(0)
	want(t, "Flush", d.Flush(), api.ErrStop)
	d.Fail(-1)
	d.Fail(3)
	if b, e := d.Read(0); b != nil || e != api.ErrStop {
		t.Errorf("Read: %v, %d", b, e)
	}
	if b, e := d.Read(-1); b != nil || e != api.ErrStop {
		t.Errorf("Read(-1): %v, %d", b, e)
	}
	want(t, "Write", d.Write(0, full(3)), api.ErrStop)
	want(t, "Flush", d.Flush(), api.ErrStop)
	if d.On() || d.Pages() != 9 || d.Waiting() != 1 || d.Image()[0] != 1 {
		t.Error(d.On(), d.Pages(), d.Waiting(), d.Image()[0])
	}
	d.Crash(nil)
	holds(t, d, 0, full(1))
	if !d.On() || d.Waiting() != 0 {
		t.Error(d.On(), d.Waiting())
	}
	for range 5 {
		want(t, "Fail is over", d.Flush(), api.OK)
	}
}

// P1.1: a Crash takes a Fail away, also one that hasn't come.
func TestCrashEndsFail(t *testing.T) {
	d := fresh(t, 8)
	d.Fail(0)
	d.Crash(nil)
	want(t, "Write", d.Write(0, full(1)), api.OK)
	want(t, "Flush", d.Flush(), api.OK)
}

// P1.1: of each atom of a write that is kept its bit of Atoms tells.
func TestAtoms(t *testing.T) {
	for atoms := range 256 {
		d := fresh(t, 8)
		d.Write(5, full(0x55))
		d.Flush()
		d.Write(5, full(0xFF))
		d.Crash([]Fate{{true, uint8(atoms)}})
		should := full(0x55)
		for i := range should {
			if atoms>>(i/8)&1 == 1 {
				should[i] = 0xFF
			}
		}
		holds(t, d, 5, should)
		holds(t, d, 4, full(0))
		holds(t, d, 6, full(0))
	}
	d := fresh(t, 8)
	d.Write(0, full(0xFF))
	d.Crash([]Fate{{true, 1}})
	holds(t, d, 0, append(bytes.Repeat([]byte{0xFF}, 8), make([]byte, 56)...))
}

// P1.1: writes go in order; of those without a fate nothing is kept, nor of those that aren't kept.
func TestFates(t *testing.T) {
	all := Fate{true, 255}
	for _, c := range []struct {
		fates []Fate
		first byte
		other byte
	}{
		{nil, 0, 0},
		{[]Fate{}, 0, 0},
		{[]Fate{all}, 1, 0},
		{[]Fate{all, all}, 1, 2},
		{[]Fate{all, {false, 255}}, 1, 0},
		{[]Fate{{false, 255}, all, {true, 0}}, 0, 2},
		{[]Fate{all, all, all}, 3, 2},
		{[]Fate{{}, {}, all, all, all}, 3, 0},
	} {
		d := fresh(t, 8)
		d.Write(1, full(1))
		d.Write(2, full(2))
		d.Write(1, full(3))
		d.Crash(c.fates)
		holds(t, d, 1, full(c.first))
		holds(t, d, 2, full(c.other))
		image := make([]byte, 2048)
		copy(image[64:], full(c.first))
		copy(image[128:], full(c.other))
		if d.Waiting() != 0 || !d.On() || !bytes.Equal(d.Image(), image) {
			t.Errorf("%v: %d wait, power %v", c.fates, d.Waiting(), d.On())
		}
	}
}

// P1.1: of one sector the later write's atoms stand above the earlier one's.
func TestTornTwice(t *testing.T) {
	d := fresh(t, 8)
	d.Write(0, full(1))
	d.Write(0, full(2))
	d.Crash([]Fate{{true, 0b0111}, {true, 0b0010}})
	should := full(0)
	copy(should, bytes.Repeat([]byte{1}, 24))
	copy(should[8:], bytes.Repeat([]byte{2}, 8))
	holds(t, d, 0, should)
}

// P1.1 and P1: a nil Disk has its answers; one that was never made has some, and none panics.
func TestNil(t *testing.T) {
	var d *Disk
	if b, e := d.Read(0); b != nil || e != api.ErrArg {
		t.Errorf("Read: %v, %d", b, e)
	}
	want(t, "Write", d.Write(0, full(1)), api.ErrArg)
	want(t, "Flush", d.Flush(), api.ErrArg)
	d.Fail(0)
	d.Crash([]Fate{{true, 255}})
	if d.On() || d.Pages() != 0 || d.Waiting() != 0 || len(d.Image()) != 0 {
		t.Error(d.On(), d.Pages(), d.Waiting(), d.Image())
	}
	var bare Disk
	for range 2 {
		bare.Read(0)
		bare.Write(0, full(1))
		bare.Flush()
		bare.Fail(0)
		bare.On()
		bare.Pages()
		bare.Waiting()
		bare.Image()
		bare.Crash([]Fate{{true, 255}})
	}
}

// P1.2: what is handed in is neither kept nor changed, its spare room neither.
func TestHandedIn(t *testing.T) {
	image := make([]byte, 2048, 4096)
	d, _ := Load(image)
	image[0] = 9
	holds(t, d, 0, full(0))
	d.Write(1, full(1))
	d.Flush()
	if image[64] != 0 || d.Image()[0] != 0 {
		t.Error("the image is kept")
	}
	room := bytes.Repeat([]byte{4}, 128)
	d.Write(2, room[:64])
	if !bytes.Equal(room, bytes.Repeat([]byte{4}, 128)) {
		t.Error("bytes were changed")
	}
	copy(room, full(5))
	holds(t, d, 2, full(4))
	d.Flush()
	if d.Image()[128] != 4 {
		t.Error("bytes are kept")
	}
	d.Write(3, full(6))
	fates := []Fate{{true, 3}, {true, 9}}
	d.Crash(fates[:1])
	if fates[0] != (Fate{true, 3}) || fates[1] != (Fate{true, 9}) {
		t.Error("fates were changed")
	}
}

// P1.2: answers are new memory.
func TestAnswers(t *testing.T) {
	d := fresh(t, 8)
	d.Write(0, full(1))
	b, _ := d.Read(0)
	copy(b, full(9))
	_ = append(b, 9)
	holds(t, d, 0, full(1))
	holds(t, d, 1, full(0))
	d.Flush()
	image := d.Image()
	copy(image, full(9))
	holds(t, d, 0, full(1))
	if d.Image()[0] != 1 {
		t.Error("an image is the disk's own")
	}
	other, _ := Load(d.Image())
	other.Write(0, full(7))
	other.Flush()
	if d.Image()[0] != 1 {
		t.Error("two disks share")
	}
}

// plain is a disk as the chapter tells it: what stays, and a list of what waits, that is looked through.
type plain struct {
	stay    [][]byte
	sectors []int
	bytes   [][]byte
	off     bool
	steps   int
	failing bool
}

func (p *plain) read(i int) ([]byte, api.Errno) {
	if p.off {
		return nil, api.ErrStop
	}
	if i < 0 || i >= len(p.stay) {
		return nil, api.ErrArg
	}
	for k := len(p.sectors) - 1; k >= 0; k-- {
		if p.sectors[k] == i {
			return p.bytes[k], api.OK
		}
	}
	return p.stay[i], api.OK
}

// stops counts a step, and tells whether power goes in it.
func (p *plain) stops() bool {
	if p.failing && p.steps == 0 {
		p.off = true
	}
	p.steps--
	return p.off
}

func (p *plain) write(i int, b []byte) api.Errno {
	if p.off {
		return api.ErrStop
	}
	if i < 0 || i >= len(p.stay) || len(b) != 64 {
		return api.ErrArg
	}
	if p.stops() {
		return api.ErrStop
	}
	p.sectors, p.bytes = append(p.sectors, i), append(p.bytes, b)
	return api.OK
}

// settle lets what waits go by its fates.
func (p *plain) settle(fates []Fate) {
	for k, i := range p.sectors {
		if k >= len(fates) || !fates[k].Keep {
			continue
		}
		s := bytes.Clone(p.stay[i])
		for j := range s {
			if fates[k].Atoms&(1<<(j/8)) != 0 {
				s[j] = p.bytes[k][j]
			}
		}
		p.stay[i] = s
	}
	p.sectors, p.bytes = nil, nil
}

func (p *plain) flush() api.Errno {
	if p.off || p.stops() {
		return api.ErrStop
	}
	all := make([]Fate, len(p.sectors))
	for k := range all {
		all[k] = Fate{true, 255}
	}
	p.settle(all)
	return api.OK
}

func (p *plain) fail(steps int) {
	if !p.off {
		p.steps, p.failing = steps, steps >= 0
	}
}

// P1.1: through many calls in any order a disk answers as the plain one does.
func TestAsPlain(t *testing.T) {
	r := rand.New(rand.NewPCG(1, 1))
	d := fresh(t, 8)
	p := &plain{stay: make([][]byte, 32)}
	for i := range p.stay {
		p.stay[i] = full(0)
	}
	for range 20000 {
		i := r.IntN(36) - 2
		switch k := r.IntN(20); {
		case k < 8:
			b := full(byte(r.IntN(256)))
			b = b[:64-r.IntN(20)/19]
			want(t, "Write", d.Write(i, b), p.write(i, b))
		case k < 15:
			b, e := d.Read(i)
			c, f := p.read(i)
			if e != f || !bytes.Equal(b, c) {
				t.Fatalf("Read(%d): %v, %d; not %v, %d", i, b, e, c, f)
			}
		case k < 17:
			want(t, "Flush", d.Flush(), p.flush())
		case k < 19:
			steps := r.IntN(30) - 3
			d.Fail(steps)
			p.fail(steps)
		default:
			fates := make([]Fate, r.IntN(10))
			for k := range fates {
				fates[k] = Fate{r.IntN(3) > 0, uint8(r.IntN(256))}
			}
			d.Crash(fates)
			p.settle(fates)
			p.off, p.failing = false, false
		}
		if d.On() == p.off || d.Waiting() != len(p.sectors) || d.Pages() != 8 || !bytes.Equal(d.Image(), bytes.Join(p.stay, nil)) {
			t.Fatalf("power %v, %d wait; not %v, %d", d.On(), d.Waiting(), !p.off, len(p.sectors))
		}
	}
}
