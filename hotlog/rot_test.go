package hotlog

import (
	"bytes"
	"math/rand"
	"testing"

	"muniment/api"
	"muniment/frame"
	"muniment/plant"
)

// TestOneByteTurned: each byte of a place, by each bit, and by more of them.
func TestOneByteTurned(t *testing.T) { // P14.7
	r := rand.New(rand.NewSource(11))
	for _, n := range []int{0, 1, 40, 47, 48, 64, 65, 106, 107, 500, 512} {
		p := made(t, []int{16}, nil)
		h := opens(t, p, 0)
		ahead, behind, b := someBytes(r, 64), someBytes(r, 64), someBytes(r, n)
		appends(t, h, ahead, at(0, 2))
		x, e := h.Append(b)
		ok(t, e)
		appends(t, h, behind, at(x.At+x.Len, 2))
		for i := range 64 * x.Len {
			for _, by := range []int{1, 2, 4, 8, 16, 32, 64, 128, 255, 1 + r.Intn(255)} {
				rots(t, p, x.At+i/64, i%64, by)
				got, e := h.Read(x)
				if i >= 4 && !(e == api.OK && bytes.Equal(got, b)) && e != api.ErrCorrupt {
					t.Fatalf("%d bytes: byte %d xored with %d: %d, %x", n, i, by, e, got)
				}
				if e != api.OK && len(got) > 0 {
					t.Fatalf("bytes beside the error %d", e)
				}
				rots(t, p, x.At+i/64, i%64, by)
			}
			reads(t, h, x, b)
		}
		reads(t, h, at(0, 2), ahead)
		reads(t, h, at(x.At+x.Len, 2), behind)
	}
}

func rots(t *testing.T, p *plant.Plant, place, at, by int) {
	t.Helper()
	if !p.Rot(0, place, at, by) {
		t.Fatal("it did not rot")
	}
}

// TestTurnedBytesAreFound: a turned byte of the object itself, or of what says whose it
// is, is no OK.
func TestTurnedBytesAreFound(t *testing.T) { // P14.3, P14.7
	p := made(t, []int{16}, nil)
	h := opens(t, p, 0)
	b := bytes.Repeat([]byte("look for me "), 40)
	x, e := h.Append(b)
	ok(t, e)
	raw := content(t, p, 0)
	for i := range 64 * x.Len {
		rots(t, p, i/64, i%64, 0x20)
		if got, e := h.Read(x); e == api.OK && !bytes.Equal(got, b) {
			t.Fatalf("byte %d (%x): other bytes", i, raw[i])
		}
		if bytes.Contains([]byte("lokfrme "), raw[i:i+1]) {
			readsNot(t, h, x, api.ErrCorrupt)
		}
		rots(t, p, i/64, i%64, 0x20)
	}
}

// TestAnyBytes: whatever a disk has, nothing panics, and an error has no bytes.
func TestAnyBytes(t *testing.T) { // P14.7, R1, R4
	r := rand.New(rand.NewSource(12))
	for range 400 {
		p := made(t, []int{32}, nil)
		for i := range 32 {
			ok(t, p.Write(0, i, someBytes(r, 64)))
		}
		if r.Intn(2) == 0 { // a frame of any length, with any payload
			layFrame(t, r, p)
		}
		for n := 1; n <= 16; n++ {
			readAny(t, opens(t, p, 0, at(0, n)), at(0, n))
		}
	}
}

// layFrame lays a frame of up to 16 sectors' pieces down, at the front of the disk.
func layFrame(t *testing.T, r *rand.Rand, p *plant.Plant) {
	t.Helper()
	kinds := []byte{kind, 0, byte(r.Intn(256))}
	f := frame.Pack(kinds[r.Intn(3)], someBytes(r, r.Intn(16*pieceSize-8)))
	for i := 0; i*pieceSize < len(f); i++ {
		b := make([]byte, 64)
		copy(b[:pieceSize], f[i*pieceSize:])
		ok(t, p.Write(0, i, b))
	}
}

func readAny(t *testing.T, h *Hot, x api.Place) {
	t.Helper()
	b, e := h.Read(x)
	if e != api.OK && e != api.ErrCorrupt || e != api.OK && len(b) > 0 || len(b) > 512 {
		t.Fatalf("Read(%v): %d, %x", x, e, b)
	}
}

// TestTooLongForAnAppend: a place of more sectors than an object may have, laid down as
// Append would lay it down.
func TestTooLongForAnAppend(t *testing.T) { // P14.3
	for n := 513; n <= 900; n++ {
		p := made(t, []int{16}, nil)
		x := at(0, cost(n))
		for i, s := range imageOf(x, 7, ones(n)) {
			ok(t, p.Write(0, i, s[:]))
		}
		readsNot(t, opens(t, p, 0, x), x, api.ErrCorrupt)
	}
}

// TestManyTurned: what rotted wholly is ErrCorrupt, or looks like something; places next
// to it are as they were.
func TestManyTurned(t *testing.T) { // P14.7
	r := rand.New(rand.NewSource(13))
	for range 300 {
		p := made(t, []int{16}, nil)
		h := opens(t, p, 0)
		a, b := someBytes(r, r.Intn(300)), someBytes(r, r.Intn(300))
		x, e := h.Append(a)
		ok(t, e)
		y, e := h.Append(b)
		ok(t, e)
		for range 1 + r.Intn(40) {
			rots(t, p, y.At+r.Intn(y.Len), r.Intn(64), r.Intn(256))
		}
		readAny(t, h, y)
		reads(t, h, x, a)
		ok(t, h.Free(y))
		appends(t, h, b, y)
		reads(t, h, y, b)
	}
}
