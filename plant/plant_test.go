package plant

import (
	"bytes"
	"math"
	"slices"
	"testing"

	"muniment/api"
)

// full is a sector of one byte.
func full(c byte) []byte { return bytes.Repeat([]byte{c}, api.SectorSize) }

// made is a plant that must be there.
func made(t *testing.T, disks, tapes []int) *Plant {
	t.Helper()
	p, e := New(api.Shape{Disks: disks, Tapes: tapes})
	if p == nil || e != api.OK {
		t.Fatalf("New(%v, %v): %v", disks, tapes, e)
	}
	return p
}

// ok fails, if e is an error.
func ok(t *testing.T, e api.Errno) {
	t.Helper()
	if e != api.OK {
		t.Fatalf("an error: %v", e)
	}
}

// put appends a block that must find room.
func put(t *testing.T, p *Plant, dev int, b []byte) {
	t.Helper()
	_, e := p.Append(dev, b)
	ok(t, e)
}

// reads fails, if what is read there is not want.
func reads(t *testing.T, p *Plant, dev, place int, want []byte) {
	t.Helper()
	if b, e := p.Read(dev, place); e != api.OK || !bytes.Equal(b, want) {
		t.Errorf("Read(%d, %d): %x, %v; want %x", dev, place, b, e, want)
	}
}

// long fails, if the device has not n sectors or blocks.
func long(t *testing.T, p *Plant, dev, n int) {
	t.Helper()
	if got, e := p.Len(dev); e != api.OK || got != n {
		t.Errorf("Len(%d): %d, %v; want %d", dev, got, e, n)
	}
}

func TestShapesThatMayNotBe(t *testing.T) { // P3.1
	for _, s := range []api.Shape{
		{},
		{Disks: []int{}, Tapes: []int{}},
		{Disks: []int{0}},
		{Tapes: []int{0}},
		{Disks: []int{-1}},
		{Tapes: []int{math.MinInt}},
		{Disks: []int{4097}},
		{Tapes: []int{4097}},
		{Tapes: []int{math.MaxInt}},
		{Disks: []int{64}, Tapes: []int{4097}},
		{Disks: []int{64, 0}, Tapes: []int{5}},
		{Disks: []int{64, 1}, Tapes: []int{5, 0}},
		{Disks: slices.Repeat([]int{1}, 13)},
		{Tapes: slices.Repeat([]int{1}, 13)},
		{Disks: slices.Repeat([]int{1}, 6), Tapes: slices.Repeat([]int{1}, 7)},
		{Disks: slices.Repeat([]int{1}, 1000)},
	} {
		if p, e := New(s); p != nil || e != api.ErrShape {
			t.Errorf("New(%v): %v", s, e)
		}
	}
}

func TestShapesThatMayBe(t *testing.T) { // P3.1
	for _, s := range []api.Shape{
		{Disks: []int{1}},
		{Tapes: []int{1}},
		{Disks: []int{4096}, Tapes: []int{4096}},
		{Disks: slices.Repeat([]int{4096}, 12)},
		{Tapes: slices.Repeat([]int{4096}, 12)},
		{Disks: []int{1, 2, 3, 4, 5}, Tapes: []int{6, 7, 8, 9, 10, 11, 12}},
	} {
		p := made(t, s.Disks, s.Tapes)
		if got := p.Shape(); !slices.Equal(got.Disks, s.Disks) || !slices.Equal(got.Tapes, s.Tapes) {
			t.Errorf("Shape: %v, want %v", got, s)
		}
		if !p.On() || p.Now() != 0 || p.Steps() != 0 {
			t.Errorf("%v: On %v, Now %d, Steps %d", s, p.On(), p.Now(), p.Steps())
		}
		for dev, n := range s.Disks {
			long(t, p, dev, n)
			for _, place := range []int{0, n / 2, n - 1} {
				reads(t, p, dev, place, full(0))
			}
		}
		for i := range s.Tapes {
			long(t, p, len(s.Disks)+i, 0)
		}
		for range 100 { // no fuse
			ok(t, p.Flush(0))
		}
	}
}

func TestTheShapeIsTheCallersOwn(t *testing.T) { // P3.1, R6
	s := api.Shape{Disks: []int{4, 5, 99}[:2], Tapes: []int{6, 99}[:1]}
	p := made(t, s.Disks, s.Tapes)
	s.Disks[0], s.Tapes[0] = 7, 8
	first := p.Shape()
	first.Disks[0], first.Tapes[0] = 9, 9
	_, _ = append(first.Disks, 9), append(first.Tapes, 9)
	if got := p.Shape(); !slices.Equal(got.Disks, []int{4, 5}) || !slices.Equal(got.Tapes, []int{6}) {
		t.Errorf("Shape: %v", got)
	}
	if d, u := s.Disks[:3], s.Tapes[:2]; d[2] != 99 || u[1] != 99 {
		t.Errorf("the room behind the lists: %v, %v", d, u)
	}
	long(t, p, 0, 4)
}

func TestReadAndLen(t *testing.T) { // P3.2
	p := made(t, []int{4, 2}, []int{2, 3})
	put(t, p, 3, full(5))
	for _, x := range [][2]int{
		{-1, 0}, {4, 0}, {math.MaxInt, 0}, {math.MinInt, 0},
		{0, -1}, {0, 4}, {1, 2}, {0, math.MaxInt}, {0, math.MinInt},
		{2, 0}, {2, -1}, {3, 1}, {3, -1}, {3, math.MaxInt},
	} {
		if b, e := p.Read(x[0], x[1]); b != nil || e != api.ErrPlace {
			t.Errorf("Read(%v): %x, %v", x, b, e)
		}
	}
	reads(t, p, 3, 0, full(5))
	ok(t, p.Flush(3))
	reads(t, p, 3, 0, full(5))
	put(t, p, 3, full(6))
	reads(t, p, 3, 0, full(5))
	reads(t, p, 3, 1, full(6))
	ok(t, p.Write(1, 1, full(7)))
	ok(t, p.Flush(1))
	ok(t, p.Write(1, 1, full(8)))
	ok(t, p.Write(1, 1, full(9)))
	reads(t, p, 1, 1, full(9))
	reads(t, p, 1, 0, full(0))
	reads(t, p, 0, 1, full(0))

	p.Fuse(0)
	if e := p.Flush(0); e != api.ErrPower {
		t.Fatalf("Flush at a fuse of 0: %v", e)
	}
	for _, x := range [][2]int{{0, 0}, {3, 0}, {-1, 0}, {0, 4}, {2, 0}} {
		if b, e := p.Read(x[0], x[1]); b != nil || e != api.ErrPower {
			t.Errorf("Read(%v) without power: %x, %v", x, b, e)
		}
	}
	for dev, n := range []int{4, 2, 0, 2} { // also without power
		long(t, p, dev, n)
	}
	for _, dev := range []int{-1, 4, math.MaxInt, math.MinInt} {
		if n, e := p.Len(dev); n != 0 || e != api.ErrPlace {
			t.Errorf("Len(%d): %d, %v", dev, n, e)
		}
	}
}

func TestReadIsNoStep(t *testing.T) { // P3.2, P3.5
	p := made(t, []int{4}, []int{2})
	p.Fuse(0)
	reads(t, p, 0, 0, full(0))
	p.Len(0)
	p.Rot(0, 0, 0, 1)
	p.Tick(1)
	p.Clone()
	if !p.On() || p.Steps() != 0 {
		t.Errorf("On %v, Steps %d", p.On(), p.Steps())
	}
}

func TestWhatIsReadIsTheCallersOwn(t *testing.T) { // P3.2, R6
	p := made(t, []int{2}, []int{2})
	ok(t, p.Write(0, 0, full(1)))
	ok(t, p.Flush(0))
	ok(t, p.Write(0, 1, full(2)))
	put(t, p, 1, full(3))
	for _, x := range []struct {
		dev, place int
		c          byte
	}{{0, 0, 1}, {0, 1, 2}, {1, 0, 3}} {
		b, _ := p.Read(x.dev, x.place)
		b = b[:cap(b)]
		for i := range b {
			b[i] = 99
		}
		reads(t, p, x.dev, x.place, full(x.c))
	}
	p.Boot([]int{1})
	reads(t, p, 0, 1, full(2))
	reads(t, p, 1, 0, full(3))
}

func TestWhatIsWrittenIsNeitherChangedNorKept(t *testing.T) { // P3.3, R6
	p := made(t, []int{2}, []int{2})
	room := bytes.Repeat([]byte{4}, 100)
	b := room[:64]
	ok(t, p.Write(0, 0, b))
	put(t, p, 1, b)
	if !bytes.Equal(room, bytes.Repeat([]byte{4}, 100)) {
		t.Error("what was handed in was changed")
	}
	clear(room)
	reads(t, p, 0, 0, full(4))
	reads(t, p, 1, 0, full(4))
	ok(t, p.Flush(0))
	ok(t, p.Flush(1))
	reads(t, p, 0, 0, full(4))
	reads(t, p, 1, 0, full(4))
	keep := []int{1, 7, 7}[:1]
	ok(t, p.Write(0, 1, full(5)))
	ok(t, p.Write(0, 0, full(6)))
	p.Boot(keep)
	if !slices.Equal(keep[:3], []int{1, 7, 7}) {
		t.Errorf("what Boot was handed was changed: %v", keep[:3])
	}
}

func TestWriteIsRefused(t *testing.T) { // P3.3
	p := made(t, []int{4, 2}, []int{2})
	put(t, p, 2, full(1))
	for _, x := range [][2]int{{-1, 0}, {2, 0}, {3, 0}, {math.MinInt, 0}, {math.MaxInt, 0}, {0, -1}, {0, 4}, {1, 2}, {1, math.MaxInt}, {1, math.MinInt}} {
		for _, n := range []int{64, 0, 65} { // a wrong place is told ahead of wrong bytes
			if e := p.Write(x[0], x[1], make([]byte, n)); e != api.ErrPlace {
				t.Errorf("Write(%v, %d bytes): %v", x, n, e)
			}
		}
	}
	for _, n := range []int{0, 1, 63, 65, 128} {
		if e := p.Write(0, 0, make([]byte, n)); e != api.ErrBytes {
			t.Errorf("Write of %d bytes: %v", n, e)
		}
		if got, e := p.Append(2, make([]byte, n)); got != 0 || e != api.ErrBytes {
			t.Errorf("Append of %d bytes: %d, %v", n, got, e)
		}
	}
	if e := p.Write(0, 0, nil); e != api.ErrBytes {
		t.Errorf("Write of nil: %v", e)
	}
	if p.Steps() != 1 {
		t.Errorf("Steps: %d", p.Steps())
	}
	p.Boot([]int{1})
	for place := range 4 {
		reads(t, p, 0, place, full(0))
	}
}

func TestAppendIsRefused(t *testing.T) { // P3.3
	p := made(t, []int{4}, []int{1, 2})
	put(t, p, 2, full(1))
	for _, dev := range []int{-1, 0, 3, math.MaxInt, math.MinInt} {
		for _, n := range []int{64, 3} {
			if got, e := p.Append(dev, make([]byte, n)); got != 0 || e != api.ErrPlace {
				t.Errorf("Append(%d, %d bytes): %d, %v", dev, n, got, e)
			}
		}
	}
	put(t, p, 2, full(2))
	for range 2 { // full, whether its blocks wait or are flushed
		if got, e := p.Append(2, full(3)); got != 0 || e != api.ErrFull {
			t.Errorf("Append to a full tape: %d, %v", got, e)
		}
		if got, e := p.Append(2, full(3)[:5]); got != 0 || e != api.ErrBytes {
			t.Errorf("Append of 5 bytes to a full tape: %d, %v", got, e)
		}
		ok(t, p.Flush(2))
	}
	long(t, p, 2, 2)
	if n, e := p.Append(1, full(4)); n != 0 || e != api.OK {
		t.Errorf("Append to the other one: %d, %v", n, e)
	}
	if e := p.Flush(3); e != api.ErrPlace {
		t.Errorf("Flush(3): %v", e)
	}
	if e := p.Flush(-1); e != api.ErrPlace {
		t.Errorf("Flush(-1): %v", e)
	}
	if p.Steps() != 5 {
		t.Errorf("Steps: %d", p.Steps())
	}
}

func TestFlushIsOfOneDevice(t *testing.T) { // P3.3, P3.9
	for dev := range 4 {
		p := made(t, []int{2, 2}, []int{2, 2})
		for d := range 2 {
			ok(t, p.Write(d, 1, full(1)))
			ok(t, p.Write(d, 1, full(2)))
			put(t, p, 2+d, full(3))
			put(t, p, 2+d, full(4))
		}
		ok(t, p.Flush(dev))
		for d := range 2 { // a flush changes nothing that is read
			reads(t, p, d, 1, full(2))
			reads(t, p, 2+d, 1, full(4))
		}
		p.Boot(nil)
		for d := range 2 {
			want, n := byte(0), 0
			if d == dev {
				want = 2
			}
			if 2+d == dev {
				n = 2
			}
			reads(t, p, d, 1, full(want))
			long(t, p, 2+d, n)
		}
	}
}

// TestNothingIsDoneWithoutPower: every call answers ErrPower ahead of all else.
func TestNothingIsDoneWithoutPower(t *testing.T) { // P3.2, P3.3, P3.5
	p := made(t, []int{2}, []int{1})
	ok(t, p.Write(0, 0, full(1)))
	put(t, p, 1, full(2))
	p.Fuse(0)
	if e := p.Write(0, 1, full(3)); e != api.ErrPower || p.On() {
		t.Fatalf("a fuse of 0: %v, %v", e, p.On())
	}
	for _, x := range []struct {
		dev, place int
		b          []byte
	}{{0, 0, full(4)}, {1, 0, full(4)}, {0, 2, full(4)}, {0, 0, nil}, {9, 9, nil}} {
		if e := p.Write(x.dev, x.place, x.b); e != api.ErrPower {
			t.Errorf("Write(%d, %d): %v", x.dev, x.place, e)
		}
		if n, e := p.Append(x.dev, x.b); n != 0 || e != api.ErrPower {
			t.Errorf("Append(%d): %d, %v", x.dev, n, e)
		}
		if e := p.Flush(x.dev); e != api.ErrPower {
			t.Errorf("Flush(%d): %v", x.dev, e)
		}
	}
	if p.Steps() != 2 {
		t.Errorf("Steps: %d", p.Steps())
	}
	p.Boot([]int{1})
	reads(t, p, 0, 0, full(1))
	reads(t, p, 0, 1, full(0))
	reads(t, p, 1, 0, full(2))
}

func TestFuse(t *testing.T) { // P3.4, P3.5
	kinds := []func(p *Plant) api.Errno{
		func(p *Plant) api.Errno { return p.Write(0, 0, full(1)) },
		func(p *Plant) api.Errno { _, e := p.Append(1, full(1)); return e },
		func(p *Plant) api.Errno { return p.Flush(0) },
		func(p *Plant) api.Errno { return p.Flush(1) },
	}
	for n := range 9 {
		p := made(t, []int{2}, []int{9})
		p.Fuse(n)
		for i := range n {
			if e := kinds[i%4](p); e != api.OK || !p.On() || p.Steps() != i+1 {
				t.Fatalf("a fuse of %d, step %d: %v, On %v, Steps %d", n, i, e, p.On(), p.Steps())
			}
		}
		if e := kinds[n%4](p); e != api.ErrPower || p.On() || p.Steps() != n {
			t.Fatalf("a fuse of %d, behind it: %v, On %v, Steps %d", n, e, p.On(), p.Steps())
		}
		p.Fuse(1) // while the power is off it does nothing
		p.Boot(nil)
		for range 9 {
			ok(t, p.Flush(0))
		}
		if p.Steps() != n+9 {
			t.Errorf("Steps behind Boot: %d, want %d", p.Steps(), n+9)
		}
	}
}

func TestFuseIsSetAnew(t *testing.T) { // P3.4
	p := made(t, []int{2}, nil)
	p.Fuse(0)
	p.Fuse(2)
	ok(t, p.Flush(0))
	p.Fuse(1)
	ok(t, p.Flush(0))
	for _, n := range []int{-1, -2, math.MinInt} {
		p.Fuse(0)
		p.Fuse(n)
		ok(t, p.Flush(0))
		ok(t, p.Flush(0))
	}
	p.Fuse(math.MaxInt)
	ok(t, p.Flush(0))
	p.Fuse(0)
	p.Boot(nil) // no fuse, also if the power was on
	ok(t, p.Flush(0))
	ok(t, p.Flush(0))
}

// TestRefusalsAreNoSteps: what is refused burns no fuse, and the power stays on
// at it.
func TestRefusalsAreNoSteps(t *testing.T) { // P3.3, P3.5
	p := made(t, []int{2}, []int{1})
	put(t, p, 1, full(1))
	for _, n := range []int{0, 1} {
		p.Fuse(n)
		for range 3 {
			p.Write(0, 2, full(1))
			p.Write(1, 0, full(1))
			p.Write(0, 0, nil)
			p.Append(0, full(1))
			p.Append(1, nil)
			if _, e := p.Append(1, full(1)); e != api.ErrFull {
				t.Errorf("Append at a fuse of %d: %v", n, e)
			}
			p.Flush(2)
		}
		if !p.On() || p.Steps() != 1 {
			t.Errorf("On %v, Steps %d", p.On(), p.Steps())
		}
	}
	ok(t, p.Flush(0))
	if e := p.Flush(0); e != api.ErrPower {
		t.Errorf("behind the fuse: %v", e)
	}
}

func TestStepAtWhichThePowerGoesOffIsNotDone(t *testing.T) { // P3.5
	before := made(t, []int{2}, []int{2})
	ok(t, before.Write(0, 0, full(1)))
	put(t, before, 1, full(2))
	for _, call := range []func(p *Plant){
		func(p *Plant) { p.Write(0, 0, full(9)) },
		func(p *Plant) { p.Append(1, full(9)) },
		func(p *Plant) { p.Flush(0) },
		func(p *Plant) { p.Flush(1) },
	} {
		p := before.Clone()
		p.Fuse(0)
		call(p)
		if p.On() || p.Steps() != 2 {
			t.Errorf("On %v, Steps %d", p.On(), p.Steps())
		}
		kept := p.Clone()
		kept.Boot([]int{1})
		reads(t, kept, 0, 0, full(1))
		long(t, kept, 1, 1)
		p.Boot(nil) // what a flush was to keep still waited
		reads(t, p, 0, 0, full(0))
		long(t, p, 1, 0)
	}
}

func TestBootOfADisk(t *testing.T) { // P3.6
	for _, x := range []struct {
		k    int
		want byte
	}{
		{0, 0}, {1, 1}, {2, 0}, {3, 1}, {4, 0}, {6, 0}, {-1, 1}, {-2, 0}, {-3, 1}, {-4, 0},
		{math.MaxInt, 1}, {math.MinInt, 0}, {math.MinInt + 1, 1},
	} {
		p := made(t, []int{2}, nil)
		ok(t, p.Write(0, 1, full(1)))
		p.Boot([]int{x.k})
		reads(t, p, 0, 1, full(x.want))
		p.Boot([]int{1}) // nothing waits any more
		reads(t, p, 0, 1, full(x.want))
	}
}

// TestBootOfOneSectorWrittenThrice: the last one that is kept stands, and one
// that is lost takes none of the others with it.
func TestBootOfOneSectorWrittenThrice(t *testing.T) { // P3.6
	for bits := range 8 {
		p := made(t, []int{2}, nil)
		ok(t, p.Write(0, 0, full(7)))
		ok(t, p.Flush(0))
		want := byte(7)
		var keep []int
		for i := range 3 {
			ok(t, p.Write(0, 0, full(byte(i+1))))
			keep = append(keep, bits>>i&1)
			if bits>>i&1 == 1 {
				want = byte(i + 1)
			}
		}
		p.Boot(keep)
		reads(t, p, 0, 0, full(want))
	}
}

func torn(c byte) []byte { return append(full(c)[:32], make([]byte, 32)...) }

func TestBootOfATape(t *testing.T) { // P3.6
	for _, x := range []struct {
		keep []int
		want [][]byte
	}{
		{nil, nil},
		{[]int{}, nil},
		{[]int{0}, nil},
		{[]int{4}, nil},
		{[]int{-4}, nil},
		{[]int{math.MinInt}, nil},
		{[]int{0, 1, 1}, nil},
		{[]int{0, 2, 2}, nil},
		{[]int{1, 0, 1}, [][]byte{full(1)}},
		{[]int{1, 4, 2}, [][]byte{full(1)}},
		{[]int{2, 1, 1}, [][]byte{torn(1)}},
		{[]int{2}, [][]byte{torn(1)}},
		{[]int{-2}, [][]byte{torn(1)}},
		{[]int{-6}, [][]byte{torn(1)}},
		{[]int{math.MaxInt - 1}, [][]byte{torn(1)}},
		{[]int{1, 2, 1}, [][]byte{full(1), torn(2)}},
		{[]int{-1, 6}, [][]byte{full(1), torn(2)}},
		{[]int{1, 2, 2}, [][]byte{full(1), torn(2)}},
		{[]int{3, -3, -2}, [][]byte{full(1), full(2), torn(3)}},
		{[]int{1, 1}, [][]byte{full(1), full(2), full(3)}},
		{[]int{math.MaxInt}, [][]byte{full(1), full(2), full(3)}},
		{[]int{1, 1, 1, 0}, [][]byte{full(1), full(2), full(3)}},
	} {
		p := made(t, nil, []int{4})
		for i := range 3 {
			put(t, p, 0, full(byte(i+1)))
		}
		p.Boot(x.keep)
		long(t, p, 0, len(x.want))
		for i, b := range x.want {
			reads(t, p, 0, i, b)
		}
		if n, e := p.Append(0, full(8)); n != len(x.want) || e != api.OK {
			t.Errorf("%v: Append behind Boot: %d, %v", x.keep, n, e)
		}
		reads(t, p, 0, len(x.want), full(8))
	}
}

// TestBootHasOneOrderOfAllDevices: numbers are dealt to the writes of all
// devices in turn, without those that were flushed.
func TestBootHasOneOrderOfAllDevices(t *testing.T) { // P3.6
	p := made(t, []int{4, 4}, []int{4, 4})
	ok(t, p.Write(0, 3, full(9)))
	put(t, p, 3, full(1))         // 0: kept
	put(t, p, 2, full(2))         // 1: lost
	ok(t, p.Write(1, 0, full(3))) // 2: kept
	ok(t, p.Flush(0))
	put(t, p, 2, full(4))         // 3: lost, for the tape lost one ahead
	ok(t, p.Write(0, 0, full(5))) // 4: lost
	put(t, p, 3, full(6))         // 5: torn
	ok(t, p.Write(1, 0, full(7))) // 6: lost
	put(t, p, 3, full(8))         // 7: lost, for the one ahead was torn
	ok(t, p.Write(0, 1, full(9))) // 8: kept, as the first
	p.Boot([]int{1, 0, 1, 1, 2, 2, 0, 1})
	reads(t, p, 0, 0, full(0))
	reads(t, p, 0, 1, full(9))
	reads(t, p, 0, 3, full(9))
	reads(t, p, 1, 0, full(3))
	long(t, p, 2, 0)
	long(t, p, 3, 2)
	reads(t, p, 3, 0, full(1))
	reads(t, p, 3, 1, torn(6))
}

func TestBootForgetsWhatEndedATape(t *testing.T) { // P3.6
	p := made(t, nil, []int{9})
	put(t, p, 0, full(1))
	p.Boot([]int{2})
	put(t, p, 0, full(2))
	p.Boot([]int{1})
	put(t, p, 0, full(3))
	p.Boot([]int{0})
	put(t, p, 0, full(4))
	p.Boot([]int{1})
	long(t, p, 0, 3)
	reads(t, p, 0, 0, torn(1))
	reads(t, p, 0, 1, full(2))
	reads(t, p, 0, 2, full(4))
}

func TestRot(t *testing.T) { // P3.7
	p := made(t, []int{4}, []int{3})
	put(t, p, 1, full(1))
	ok(t, p.Flush(1))
	put(t, p, 1, full(2))
	for _, x := range [][3]int{
		{-1, 0, 0}, {2, 0, 0}, {math.MaxInt, 0, 0}, {math.MinInt, 0, 0},
		{0, -1, 0}, {0, 4, 0}, {0, math.MaxInt, 0}, {0, math.MinInt, 0},
		{1, -1, 0}, {1, 1, 0}, {1, 2, 0}, {1, 3, 0},
		{0, 0, -1}, {0, 0, 64}, {1, 0, 64}, {0, 0, math.MaxInt}, {0, 0, math.MinInt},
	} {
		if p.Rot(x[0], x[1], x[2], 255) {
			t.Errorf("Rot(%v)", x)
		}
	}
	reads(t, p, 0, 0, full(0))
	reads(t, p, 1, 0, full(1))
	reads(t, p, 1, 1, full(2))
	for _, x := range []struct {
		by   int
		want byte
	}{{0, 0}, {1, 1}, {255, 255}, {256, 0}, {257, 1}, {-1, 255}, {-256, 0}, {math.MinInt, 0}, {math.MaxInt, 255}} {
		for _, at := range []int{0, 31, 63} {
			for place := range 4 {
				c := p.Clone()
				want := full(0)
				want[at] = x.want
				if !c.Rot(0, place, at, x.by) {
					t.Fatalf("Rot(0, %d, %d, %d)", place, at, x.by)
				}
				reads(t, c, 0, place, want)
				reads(t, c, 0, (place+1)%4, full(0))
				c.Rot(0, place, at, x.by) // turned back
				reads(t, c, 0, place, full(0))
			}
		}
	}
}

func TestRotLeavesWhatWaits(t *testing.T) { // P3.7
	rotten := full(1)
	rotten[3] ^= 0x81
	p := made(t, []int{4}, []int{3})
	ok(t, p.Write(0, 0, full(1)))
	ok(t, p.Flush(0))
	ok(t, p.Write(0, 0, full(2)))
	if !p.Rot(0, 0, 3, 0x181) {
		t.Fatal("Rot")
	}
	reads(t, p, 0, 0, full(2))
	kept := p.Clone()
	kept.Boot([]int{1})
	reads(t, kept, 0, 0, full(2))
	p.Boot(nil)
	reads(t, p, 0, 0, rotten)
}

func TestRotWithoutPower(t *testing.T) { // P3.7
	p := made(t, []int{1}, []int{1})
	put(t, p, 1, full(1))
	ok(t, p.Flush(1))
	p.Fuse(0)
	p.Flush(0)
	if p.On() || !p.Rot(0, 0, 0, 1) || !p.Rot(1, 0, 1, 1) || p.Rot(1, 1, 0, 1) || p.On() {
		t.Fatal("Rot without power")
	}
	p.Boot(nil)
	reads(t, p, 0, 0, append([]byte{1}, full(0)[1:]...))
	reads(t, p, 1, 0, append([]byte{1, 0}, full(1)[2:]...))
}

func TestClock(t *testing.T) { // P3.8
	p := made(t, []int{1}, nil)
	now := 0
	for _, n := range []int{0, -1, math.MinInt, 1, 5, 0, -9, 1 << 30, api.MaxClock - 1<<30 - 7} {
		p.Tick(n)
		now += max(n, 0)
		if p.Now() != now {
			t.Fatalf("Tick(%d): %d, want %d", n, p.Now(), now)
		}
	}
	p.Fuse(0)
	p.Flush(0)
	p.Tick(1) // also without power
	if now != api.MaxClock-1 || p.Now() != api.MaxClock {
		t.Fatalf("Now: %d", p.Now())
	}
	for _, n := range []int{1, math.MaxInt, 0, -1, math.MinInt} {
		p.Tick(n)
		p.Boot(nil)
		if p.Now() != api.MaxClock {
			t.Fatalf("Tick(%d) at the end: %d", n, p.Now())
		}
	}
	for _, n := range []int{api.MaxClock, api.MaxClock + 1, math.MaxInt} {
		for _, ahead := range []int{0, 1, api.MaxClock - 1} {
			q := made(t, []int{1}, nil)
			q.Tick(ahead)
			q.Tick(n)
			if q.Now() != api.MaxClock {
				t.Errorf("Tick(%d) at %d: %d", n, ahead, q.Now())
			}
		}
	}
}

// TestCloneIsLikeTheOther: power, fuse, steps, clock, shape, what waits and its
// order.
func TestCloneIsLikeTheOther(t *testing.T) { // P3.8, R7
	p := made(t, []int{2}, []int{3})
	ok(t, p.Write(0, 0, full(1)))
	put(t, p, 1, full(2))
	ok(t, p.Write(0, 0, full(3)))
	p.Tick(7)
	p.Fuse(1)
	c := p.Clone()
	if c == p || c.Now() != 7 || c.Steps() != 3 || !c.On() || !slices.Equal(c.Shape().Disks, []int{2}) || !slices.Equal(c.Shape().Tapes, []int{3}) {
		t.Fatalf("a clone: Now %d, Steps %d, On %v, Shape %v", c.Now(), c.Steps(), c.On(), c.Shape())
	}
	kept := p.Clone()
	kept.Boot([]int{1, 2, 0})
	reads(t, kept, 0, 0, full(1))
	reads(t, kept, 1, 0, torn(2))
	put(t, c, 1, full(4))
	if _, e := c.Append(1, full(5)); e != api.ErrPower || !p.On() {
		t.Errorf("a clone's fuse: %v, On %v", e, p.On())
	}
	if dark := c.Clone(); dark.On() {
		t.Error("the clone of one without power has it")
	}
	long(t, p, 1, 1)
	if p.Steps() != 3 || p.Now() != 7 {
		t.Errorf("Steps %d, Now %d", p.Steps(), p.Now())
	}
	p.Tick(1)
	put(t, p, 1, full(6))
	if c.Now() != 7 {
		t.Errorf("the clone's Now: %d", c.Now())
	}
	c.Boot([]int{1})
	reads(t, c, 1, 1, full(4))
	reads(t, p, 1, 1, full(6))
}

func TestFlushedStays(t *testing.T) { // P3.9
	for _, keep := range [][]int{nil, {0}, {1}, {2}, {4}, {1, 2}, {0, 1}, {-1, -2, -3, -4}} {
		p := made(t, []int{4}, []int{9})
		ok(t, p.Write(0, 0, full(1)))
		put(t, p, 1, full(2))
		ok(t, p.Flush(0))
		ok(t, p.Flush(1))
		for range 3 {
			p.Boot(keep)
			reads(t, p, 0, 0, full(1))
			reads(t, p, 1, 0, full(2))
			ok(t, p.Write(0, 1, full(3)))
			put(t, p, 1, full(4))
		}
		p.Boot(keep)
		ok(t, p.Write(0, 0, full(5)))
		p.Boot([]int{0})
		reads(t, p, 0, 0, full(1))
		ok(t, p.Write(0, 0, full(6)))
		p.Boot([]int{1})
		reads(t, p, 0, 0, full(6))
		ok(t, p.Write(0, 0, full(7)))
		ok(t, p.Flush(0))
		p.Boot([]int{0})
		reads(t, p, 0, 0, full(7))
		reads(t, p, 1, 0, full(2))
	}
}

func TestBootOfNothingThatWaits(t *testing.T) { // P3.9
	p := made(t, []int{2}, []int{2})
	ok(t, p.Write(0, 1, full(1)))
	put(t, p, 1, full(2))
	ok(t, p.Flush(0))
	ok(t, p.Flush(1))
	p.Tick(3)
	for _, keep := range [][]int{nil, {}, {0}, {1}, {2}, {-2, 1, 0}} {
		p.Fuse(0)
		p.Flush(0)
		p.Boot(keep)
		if !p.On() || p.Steps() != 4 || p.Now() != 3 {
			t.Errorf("Boot(%v): On %v, Steps %d, Now %d", keep, p.On(), p.Steps(), p.Now())
		}
		reads(t, p, 0, 0, full(0))
		reads(t, p, 0, 1, full(1))
		reads(t, p, 1, 0, full(2))
		long(t, p, 1, 1)
	}
}

// TestGreatest: the greatest plant, filled, flushed and filled again.
func TestGreatest(t *testing.T) { // P3.1, P3.3, P3.6
	p := made(t, slices.Repeat([]int{4096}, 6), slices.Repeat([]int{4096}, 6))
	for place := range 4096 {
		for dev := range 6 {
			ok(t, p.Write(dev, place, full(byte(place))))
			put(t, p, 6+dev, full(byte(place+dev)))
		}
	}
	ok(t, p.Flush(0))
	ok(t, p.Flush(6))
	p.Boot([]int{0})
	for dev := range 6 {
		reads(t, p, dev, 4095, full([]byte{255, 0, 0, 0, 0, 0}[dev]))
	}
	long(t, p, 6, 4096)
	long(t, p, 7, 0)
	if p.Steps() != 12*4096+2 {
		t.Errorf("Steps: %d", p.Steps())
	}
}
