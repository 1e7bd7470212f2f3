package hotlog

import (
	"bytes"
	"math"
	"math/rand"
	"slices"
	"testing"

	"muniment/api"
	"muniment/plant"
)

func made(t *testing.T, disks, tapes []int) *plant.Plant {
	t.Helper()
	p, e := plant.New(api.Shape{Disks: disks, Tapes: tapes})
	ok(t, e)
	return p
}

func ok(t *testing.T, e api.Errno) {
	t.Helper()
	if e != api.OK {
		t.Fatalf("answers %d", e)
	}
}

// at is a place of the device 0.
func at(first, n int) api.Place { return api.Place{At: first, Len: n} }

func opens(t *testing.T, p *plant.Plant, dev int, used ...api.Place) *Hot {
	t.Helper()
	given, steps := slices.Clone(used), p.Steps()
	h, e := Open(p, dev, used)
	if h == nil || e != api.OK {
		t.Fatalf("Open(%d, %v): %v, %d", dev, used, h, e)
	}
	if !slices.Equal(used, given) || p.Steps() != steps {
		t.Fatalf("Open(%d, %v) changed something", dev, given)
	}
	return h
}

func opensNot(t *testing.T, p *plant.Plant, dev int, want api.Errno, used ...api.Place) {
	t.Helper()
	if h, e := Open(p, dev, used); h != nil || e != want {
		t.Fatalf("Open(%d, %v): %v, %d; want %d", dev, used, h, e, want)
	}
}

func appends(t *testing.T, h *Hot, b []byte, want api.Place) {
	t.Helper()
	if x, e := h.Append(b); x != want || e != api.OK {
		t.Fatalf("Append of %d bytes: %v, %d; want %v", len(b), x, e, want)
	}
}

func appendsNot(t *testing.T, h *Hot, b []byte, want api.Errno) {
	t.Helper()
	if x, e := h.Append(b); x != (api.Place{}) || e != want {
		t.Fatalf("Append of %d bytes: %v, %d; want %d", len(b), x, e, want)
	}
}

func reads(t *testing.T, h *Hot, x api.Place, want []byte) {
	t.Helper()
	if b, e := h.Read(x); !bytes.Equal(b, want) || e != api.OK {
		t.Fatalf("Read(%v): %d, %x; want %x", x, e, b, want)
	}
}

func readsNot(t *testing.T, h *Hot, x api.Place, want api.Errno) {
	t.Helper()
	if b, e := h.Read(x); len(b) > 0 || e != want {
		t.Fatalf("Read(%v): %d, %x; want %d", x, e, b, want)
	}
}

func freesNot(t *testing.T, h *Hot, x api.Place) {
	t.Helper()
	if e := h.Free(x); e != api.ErrPlace {
		t.Fatalf("Free(%v): %d", x, e)
	}
}

// isNone holds that a place is none that is in use.
func isNone(t *testing.T, h *Hot, x api.Place) {
	t.Helper()
	readsNot(t, h, x, api.ErrPlace)
	freesNot(t, h, x)
}

// content is all that a disk has.
func content(t *testing.T, p *plant.Plant, dev int) []byte {
	t.Helper()
	n, e := p.Len(dev)
	ok(t, e)
	var all []byte
	for i := range n {
		b, e := p.Read(dev, i)
		ok(t, e)
		all = append(all, b...)
	}
	return all
}

func someBytes(r *rand.Rand, n int) []byte {
	b := make([]byte, n)
	r.Read(b)
	return b
}

// spoil turns all bytes, those of the spare room too.
func spoil(b []byte) {
	b = b[:cap(b)]
	for i := range b {
		b[i] ^= 0xa5
	}
}

// ones is what an object of n bytes has, if it does not matter.
func ones(n int) []byte { return bytes.Repeat([]byte{1}, n) }

// off turns the power off.
func off(p *plant.Plant) {
	p.Fuse(0)
	p.Flush(0)
}

// wrongPlaces are no places of the disk 0 of a plant, if that has 40 sectors.
func wrongPlaces() []api.Place {
	const big, small = math.MaxInt, math.MinInt
	wrong := []api.Place{
		{}, at(0, 17), at(0, 18), at(0, 32), at(0, -1), at(0, -16), at(0, small), at(0, big), at(5, 0), at(5, -1), at(16, 17),
		at(-1, 1), at(-1, 2), at(-16, 16), at(-17, 1), at(-15, 16), at(-32, 1), at(small, 1), at(small, 16), at(small+1, 1), at(small, small), at(small, -1),
		at(1, 16), at(15, 2), at(8, 9), at(14, 3), at(31, 2), at(20, 13), at(30, 16),
		at(32, 1), at(39, 1), at(32, 8), at(40, 1), at(48, 1), at(4096, 1), at(1<<16, 1), at(1<<32, 1), at(1<<32+1, 1),
		at(big, 1), at(big, 2), at(big-15, 16), at(big, big), at(big-16, 1), at(1, big), at(-1, small), at(big, -1),
	}
	for _, dev := range []int{small, -1, 1, 2, 3, 4, 12, 1 << 32, big} {
		wrong = append(wrong, api.Place{Dev: dev, At: 0, Len: 1}, api.Place{Dev: dev, At: 3, Len: 2})
	}
	return wrong
}

func TestExamples(t *testing.T) { // P14.1 to P14.4
	p := made(t, []int{40}, nil)
	h := opens(t, p, 0)
	appends(t, h, nil, at(0, 1))
	appends(t, h, ones(512), at(1, 9))
	appends(t, h, ones(320), at(10, 6))
	appends(t, h, nil, at(16, 1))
	ok(t, h.Free(at(1, 9)))
	b := bytes.Repeat([]byte("01234567"), 8)
	appends(t, h, b, at(1, 2))
	appends(t, h, ones(512), at(17, 9))
	appendsNot(t, h, ones(512), api.ErrFull)
	readsNot(t, h, at(1, 9), api.ErrPlace)
	reads(t, h, at(1, 2), b)
	freesNot(t, h, at(1, 1))
	opensNot(t, p, 0, api.ErrPlace, at(15, 2))
	opensNot(t, p, 0, api.ErrPlace, at(32, 1))
	opensNot(t, p, 0, api.ErrPlace, at(0, 2), at(1, 1))
}

func TestOpenOfNoDisk(t *testing.T) { // P14.1
	p := made(t, []int{40, 16}, []int{40, 16})
	for _, dev := range []int{math.MinInt, -2, -1, 2, 3, 4, 11, 12, 1 << 32, math.MaxInt} {
		opensNot(t, p, dev, api.ErrArg)
		opensNot(t, p, dev, api.ErrArg, at(0, 1))
		opensNot(t, p, dev, api.ErrArg, api.Place{Dev: dev, Len: 1})
		opensNot(t, p, dev, api.ErrArg, at(0, 0), at(0, 17))
	}
	opens(t, p, 0)
	opens(t, p, 1)
}

func TestOpenOfNoPlace(t *testing.T) { // P14.1
	p := made(t, []int{40, 40}, []int{40})
	for _, x := range wrongPlaces() {
		for _, bad := range []bool{false, true} {
			x.Bad = bad
			opensNot(t, p, 0, api.ErrPlace, x)
			opensNot(t, p, 0, api.ErrPlace, at(2, 1), x)
			opensNot(t, p, 0, api.ErrPlace, x, at(2, 1))
		}
	}
}

// TestEveryPlace: all that there may be, and all next to them; each one is in use behind
// Open, and no other one.
func TestEveryPlace(t *testing.T) { // P14.1, P14.3, P14.4
	p := made(t, []int{40}, nil)
	for first := -3; first < 45; first++ {
		for n := -2; n <= 34; n++ {
			x := at(first, n)
			if first < 0 || n < 1 || n > 16 || first >= 32 || first/16 != (first+n-1)/16 {
				opensNot(t, p, 0, api.ErrPlace, x)
				continue
			}
			h := opens(t, p, 0, x)
			for _, y := range []api.Place{at(first, n-1), at(first, n+1), at(first-1, n), at(first+1, n), at(first+1, n-1), at(first-1, n+1), at(first+16, n), at(first-16, n), {Dev: 1, At: first, Len: n}} {
				isNone(t, h, y)
			}
			readsNot(t, h, x, api.ErrCorrupt)
			ok(t, h.Free(x))
			isNone(t, h, x)
		}
	}
}

// TestOverlaps: each two places of a disk, in both orders.
func TestOverlaps(t *testing.T) { // P14.1, P14.8
	p := made(t, []int{33}, nil)
	var all []api.Place
	for first := range 32 {
		for n := 1; n <= 16-first%16; n++ {
			all = append(all, at(first, n))
		}
	}
	for i, x := range all {
		for _, y := range all[:i+1] {
			y.Bad = i%2 == 0
			if x.At < y.At+y.Len && y.At < x.At+x.Len {
				opensNot(t, p, 0, api.ErrPlace, x, y)
				opensNot(t, p, 0, api.ErrPlace, y, x)
			} else {
				opens(t, p, 0, x, y)
				opens(t, p, 0, y, x)
			}
		}
	}
	opensNot(t, p, 0, api.ErrPlace, at(0, 3), at(4, 2), at(3, 1), at(3, 1))
	opensNot(t, p, 0, api.ErrPlace, at(0, 16), at(16, 16), at(31, 1))
	opens(t, p, 0, at(16, 16), at(0, 8), at(15, 1), at(8, 7))
}

// TestJustThesePlaces: what Append finds free behind Open is all but those.
func TestJustThesePlaces(t *testing.T) { // P14.1, P14.2
	p := made(t, []int{50}, nil)
	h := opens(t, p, 0, at(34, 14), at(0, 1), at(3, 2), api.Place{At: 8, Len: 8, Bad: true}, at(16, 16))
	for _, first := range []int{1, 2, 5, 6, 7, 32, 33} {
		appends(t, h, nil, at(first, 1))
	}
	appendsNot(t, h, nil, api.ErrFull)
	h = opens(t, p, 0, at(34, 14), at(0, 1), at(3, 2), at(8, 8), at(16, 16))
	appends(t, h, ones(1), at(1, 2))
	appends(t, h, ones(100), at(5, 3))
	appends(t, h, ones(64), at(32, 2))
	appendsNot(t, h, nil, api.ErrFull)
}

func TestSmallDisks(t *testing.T) { // P14.1, P14.2
	for n := 1; n <= 50; n++ {
		p := made(t, []int{n}, nil)
		h := opens(t, p, 0)
		segments := n / 16
		opensNot(t, p, 0, api.ErrPlace, at(16*segments, 1))
		if segments > 0 {
			opens(t, p, 0, at(16*segments-1, 1))
		}
		for i := range 16 * segments {
			appends(t, h, nil, at(i, 1))
		}
		for _, length := range []int{0, 1, 64, 512} {
			appendsNot(t, h, ones(length), api.ErrFull)
		}
		appendsNot(t, h, ones(513), api.ErrLong)
		if rest := content(t, p, 0)[64*16*segments:]; !bytes.Equal(rest, make([]byte, len(rest))) {
			t.Errorf("%d sectors: what is behind the last segment was written to", n)
		}
	}
}

func TestTheGreatestDisk(t *testing.T) { // P14.1 to P14.4
	p := made(t, []int{4096, 4096}, nil)
	last := api.Place{Dev: 1, At: 4095, Len: 1}
	var used []api.Place
	for first := 0; first < 4096-16; first += 16 {
		used = append(used, api.Place{Dev: 1, At: first, Len: 16})
	}
	used = append(used, api.Place{Dev: 1, At: 4080, Len: 15})
	h := opens(t, p, 1, used...)
	appends(t, h, nil, last)
	reads(t, h, last, nil)
	ok(t, h.Free(last))
	ok(t, h.Free(used[len(used)-1]))
	b := someBytes(rand.New(rand.NewSource(1)), 512)
	appends(t, h, b, api.Place{Dev: 1, At: 4080, Len: 9})
	reads(t, h, api.Place{Dev: 1, At: 4080, Len: 9}, b)
	opensNot(t, p, 1, api.ErrPlace, api.Place{Dev: 1, At: 4096, Len: 1})
}

// TestEveryLength: what each costs, and that it is read as it was, also by another one,
// behind a Boot that keeps nothing.
func TestEveryLength(t *testing.T) { // P14.2, P14.3, P14.6
	r := rand.New(rand.NewSource(2))
	for n := range 513 {
		p := made(t, []int{16, 16}, nil)
		h := opens(t, p, 1)
		for _, b := range [][]byte{someBytes(r, n), make([]byte, n), bytes.Repeat([]byte{255}, n)} {
			x := api.Place{Dev: 1, At: 0, Len: 1 + n/64}
			if n%64 > 0 {
				x.Len++
			}
			appends(t, h, b, x)
			reads(t, h, x, b)
			if n < 513-64 { // the next sector is free
				appends(t, h, nil, api.Place{Dev: 1, At: x.Len, Len: 1})
			}
			p.Boot(nil)
			h = opens(t, p, 1, x)
			reads(t, h, x, b)
			ok(t, h.Free(x))
		}
	}
}

func TestLongOnes(t *testing.T) { // P14.2
	p := made(t, []int{40}, nil)
	h := opens(t, p, 0)
	steps := p.Steps()
	for _, n := range []int{513, 514, 575, 576, 577, 1024, 1 << 16, 1 << 20} {
		appendsNot(t, h, make([]byte, n), api.ErrLong)
	}
	if p.Steps() != steps {
		t.Errorf("a long one was written")
	}
	appends(t, h, ones(512), at(0, 9))
}

// TestWhichErrorFirst: the power comes behind what needs no device.
func TestWhichErrorFirst(t *testing.T) { // P14.1 to P14.4, R2, R3
	p := made(t, []int{16}, []int{4})
	h := opens(t, p, 0)
	appends(t, h, ones(512), at(0, 9))
	appendsNot(t, h, ones(513), api.ErrLong) // there is no room, too
	appendsNot(t, h, ones(512), api.ErrFull)
	off(p)
	appendsNot(t, h, ones(513), api.ErrLong)
	appendsNot(t, h, ones(512), api.ErrFull)
	readsNot(t, h, at(0, 8), api.ErrPlace)
	freesNot(t, h, at(0, 8))
	opensNot(t, p, 1, api.ErrArg)
	opensNot(t, p, 0, api.ErrPlace, at(16, 1))
	opens(t, p, 0, at(0, 9)) // asks for no step, and for no read
	readsNot(t, opens(t, p, 0, at(0, 9)), at(0, 9), api.ErrPower)
	appendsNot(t, opens(t, p, 0, at(0, 9)), nil, api.ErrPower)
	ok(t, h.Free(at(0, 9)))
	isNone(t, h, at(0, 9))
}

// TestFullButForOne: a segment with one sector that is free.
func TestFullButForOne(t *testing.T) { // P14.2
	for first := range 16 {
		p := made(t, []int{47}, nil)
		used := []api.Place{at(16, 14)}
		if first > 0 {
			used = append(used, at(0, first))
		}
		if first < 15 {
			used = append(used, at(first+1, 15-first))
		}
		h := opens(t, p, 0, used...)
		appendsNot(t, h, ones(65), api.ErrFull)
		appends(t, h, ones(64), at(30, 2))
		appendsNot(t, h, ones(1), api.ErrFull)
		appends(t, h, nil, at(first, 1))
		appendsNot(t, h, nil, api.ErrFull)
	}
}

// TestNotOverASegmentsEnd: free sectors of two segments are not side by side.
func TestNotOverASegmentsEnd(t *testing.T) { // P14.2
	p := made(t, []int{48}, nil)
	h := opens(t, p, 0, at(0, 8), at(24, 8), at(40, 8))
	appendsNot(t, h, ones(512), api.ErrFull) // twice eight at 8
	appends(t, h, ones(448), at(8, 8))
	appends(t, h, ones(400), at(16, 8))
	appends(t, h, ones(385), at(32, 8))
	appendsNot(t, h, nil, api.ErrFull)
}

// TestTheLeastPlace: the first that is great enough, not the one that fits best, nor the
// one that was given up last.
func TestTheLeastPlace(t *testing.T) { // P14.2
	p := made(t, []int{32}, nil)
	h := opens(t, p, 0)
	for i := range 16 {
		appends(t, h, ones(1), at(2*i, 2))
	}
	ok(t, h.Free(at(12, 2)))
	ok(t, h.Free(at(20, 2)))
	ok(t, h.Free(at(4, 2)))
	ok(t, h.Free(at(6, 2)))
	appends(t, h, ones(1), at(4, 2))
	appends(t, h, nil, at(6, 1))
	appends(t, h, ones(64), at(12, 2))
	appends(t, h, nil, at(7, 1))
	appendsNot(t, h, ones(65), api.ErrFull)
	appends(t, h, ones(2), at(20, 2))
	appendsNot(t, h, nil, api.ErrFull)
}

// TestRoomInTheMiddle: it comes again, at once, and what is beside it stays.
func TestRoomInTheMiddle(t *testing.T) { // P14.2, P14.4, P14.8
	r := rand.New(rand.NewSource(3))
	p := made(t, []int{16}, nil)
	h := opens(t, p, 0)
	front, back := someBytes(r, 128), someBytes(r, 192)
	appends(t, h, front, at(0, 3))
	appends(t, h, ones(450), at(3, 9))
	appends(t, h, back, at(12, 4))
	for range 3 {
		appendsNot(t, h, nil, api.ErrFull)
		ok(t, h.Free(at(3, 9)))
		appends(t, h, front[:100], at(3, 3))
		appends(t, h, back[:1], at(6, 2))
		appends(t, h, front, at(8, 3))
		appends(t, h, nil, at(11, 1))
		reads(t, h, at(3, 3), front[:100])
		ok(t, h.Free(at(8, 3)))
		ok(t, h.Free(at(3, 3)))
		ok(t, h.Free(at(6, 2)))
		appendsNot(t, h, ones(512), api.ErrFull)
		ok(t, h.Free(at(11, 1)))
		b := someBytes(r, 512)
		appends(t, h, b, at(3, 9))
		reads(t, h, at(0, 3), front)
		reads(t, h, at(3, 9), b)
		reads(t, h, at(12, 4), back)
	}
}

func TestFreeOfNoPlace(t *testing.T) { // P14.3, P14.4
	p := made(t, []int{40, 40}, []int{40})
	h := opens(t, p, 0)
	a, b := []byte("a"), ones(300)
	appends(t, h, a, at(0, 2))
	appends(t, h, b, at(2, 6))
	wrong := append(wrongPlaces(), at(0, 1), at(1, 1), at(1, 2), at(0, 3), at(0, 8), at(2, 5), at(3, 5), at(2, 7), at(7, 1), at(8, 1), at(8, 6), at(16, 2))
	steps := p.Steps()
	for _, x := range wrong {
		isNone(t, h, x)
		x.Bad = true
		isNone(t, h, x)
	}
	if p.Steps() != steps {
		t.Errorf("a step was done")
	}
	reads(t, h, at(0, 2), a)
	reads(t, h, at(2, 6), b)
	ok(t, h.Free(api.Place{At: 0, Len: 2, Bad: true}))
	isNone(t, h, at(0, 2))
	reads(t, h, api.Place{At: 2, Len: 6, Bad: true}, b)
	appends(t, h, b[:70], at(8, 3)) // what was given up has two sectors
	ok(t, h.Free(at(2, 6)))
	isNone(t, h, at(2, 6))
	appends(t, h, b, at(0, 6))
	isNone(t, h, at(2, 6))
}

// TestFreeAsksNoDevice: with the power off, and none is changed.
func TestFreeAsksNoDevice(t *testing.T) { // P14.4
	p := made(t, []int{16}, nil)
	h := opens(t, p, 0)
	appends(t, h, ones(10), at(0, 2))
	had, steps := content(t, p, 0), p.Steps()
	off(p)
	ok(t, h.Free(at(0, 2)))
	freesNot(t, h, at(0, 2))
	p.Boot(nil)
	if !bytes.Equal(content(t, p, 0), had) || p.Steps() != steps {
		t.Errorf("Free wrote something")
	}
	reads(t, opens(t, p, 0, at(0, 2)), at(0, 2), ones(10))
}

// TestNeverWritten: places that were opened, and that no Append wrote.
func TestNeverWritten(t *testing.T) { // P14.3
	p := made(t, []int{16, 16}, nil)
	for n := 1; n <= 16; n++ {
		readsNot(t, opens(t, p, 0, at(0, n)), at(0, n), api.ErrCorrupt)
	}
	h := opens(t, p, 0)
	appends(t, h, ones(400), at(0, 8))
	for first := range 16 {
		for n := 1; n <= 16-first; n++ {
			x := at(first, n)
			if g := opens(t, p, 0, x); x == at(0, 8) {
				reads(t, g, x, ones(400))
			} else {
				readsNot(t, g, x, api.ErrCorrupt)
			}
			x.Dev = 1
			readsNot(t, opens(t, p, 1, x), x, api.ErrCorrupt)
		}
	}
}

// TestReadAsksOnly: it does no step, and may be done again.
func TestReadAsksOnly(t *testing.T) { // P14.3
	p := made(t, []int{16}, nil)
	h := opens(t, p, 0)
	appends(t, h, ones(77), at(0, 3))
	had, steps := content(t, p, 0), p.Steps()
	for range 3 {
		reads(t, h, at(0, 3), ones(77))
	}
	if !bytes.Equal(content(t, p, 0), had) || p.Steps() != steps {
		t.Errorf("Read wrote something")
	}
}

// TestMemory: what the caller does to its own is not seen.
func TestMemory(t *testing.T) { // P14.2, P14.3, R6
	for _, n := range []int{0, 1, 43, 64, 65, 300, 512} {
		p := made(t, []int{16}, nil)
		used := make([]api.Place, 1, 4)
		used[0] = at(15, 1)
		h := opens(t, p, 0, used...)
		for i := range used[:4] {
			used[:4][i] = at(3, 5)
		}
		isNone(t, h, at(3, 5))
		b := make([]byte, n, n+100)
		for i := range b[:n+100] {
			b[:n+100][i] = byte(i)
		}
		given, want := bytes.Clone(b[:n+100]), bytes.Clone(b)
		x, e := h.Append(b)
		ok(t, e)
		if !bytes.Equal(b[:n+100], given) {
			t.Fatalf("Append changed what it was given")
		}
		spoil(b)
		for range 3 {
			got, e := h.Read(x)
			ok(t, e)
			if !bytes.Equal(got, want) {
				t.Fatalf("Read: %x, want %x", got, want)
			}
			spoil(got)
		}
		p.Boot(nil)
		reads(t, opens(t, p, 0, x), x, want)
	}
}

// TestOtherDevices: nothing is written to them.
func TestOtherDevices(t *testing.T) { // P14.2, P14.8
	p := made(t, []int{32, 32, 32}, []int{32})
	h := opens(t, p, 1)
	appends(t, h, ones(512), api.Place{Dev: 1, At: 0, Len: 9})
	appends(t, h, ones(512), api.Place{Dev: 1, At: 16, Len: 9})
	for _, dev := range []int{0, 2} {
		if had := content(t, p, dev); !bytes.Equal(had, make([]byte, len(had))) {
			t.Errorf("disk %d was written to", dev)
		}
	}
	if n, _ := p.Len(3); n != 0 {
		t.Errorf("the tape was written to")
	}
}
