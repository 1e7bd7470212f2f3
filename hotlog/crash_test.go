package hotlog

import (
	"bytes"
	"math/rand"
	"testing"

	"muniment/api"
	"muniment/crc"
	"muniment/frame"
	"muniment/plant"
)

// keeps are all lists for n writes that wait.
func keeps(n int) [][]int {
	var all [][]int
	for bits := range 1 << n {
		keep := make([]int, n)
		for i := range keep {
			keep[i] = bits >> i & 1
		}
		all = append(all, keep)
	}
	return all
}

// begun is a disk of two segments with some places in use, and some that were given up.
func begun(t *testing.T, r *rand.Rand) *pair {
	t.Helper()
	c := newPair(t, made(t, []int{35}, nil), 0)
	for _, n := range []int{70, 512, 0, 100, 128, 400, 0} {
		c.append(someBytes(r, n))
	}
	c.free(at(3, 9))
	c.free(at(16, 3))
	return c
}

// cutOff does an Append at each fuse till it is not cut off any more, and crashes with
// each part kept.
func cutOff(t *testing.T, begin func() *pair, b []byte, then func(c *pair)) {
	t.Helper()
	for fuse := 0; ; fuse++ {
		e := api.OK
		for _, keep := range keeps(fuse) {
			c := begin()
			c.p.Fuse(fuse)
			e = c.append(bytes.Clone(b))
			c.p.Boot(keep)
			then(c)
		}
		if e != api.ErrPower {
			return
		}
	}
}

// TestAppendCutOff: what was answered is there, what was at hand is not in use, and the
// disk goes on as the plain one.
func TestAppendCutOff(t *testing.T) { // P14.6, P14.8
	for _, n := range []int{0, 1, 64, 65, 300, 448, 512} {
		begin := func() *pair { return begun(t, rand.New(rand.NewSource(5))) }
		r := rand.New(rand.NewSource(int64(n)))
		cutOff(t, begin, someBytes(r, n), func(c *pair) {
			t.Helper()
			c.reopen(r)
			c.all()
			c.append(someBytes(r, 100))
			c.append(someBytes(r, 500))
			c.p.Boot(nil)
			c.reopen(r)
			c.all()
		})
	}
}

// TestAnsweredIsForGood: nothing of it waits, whatever Boot keeps.
func TestAnsweredIsForGood(t *testing.T) { // P14.2, P14.6
	r := rand.New(rand.NewSource(6))
	for range 50 {
		c := newPair(t, made(t, []int{48}, nil), 0)
		for range 8 {
			c.append(someBytes(r, r.Intn(513)))
			c.p.Boot(nil)
			c.reopen(r)
			c.all()
		}
	}
}

// TestAnyCallsWithCrashes: two disks on one plant, any calls, any crashes.
func TestAnyCallsWithCrashes(t *testing.T) { // P14.1 to P14.6, P14.8
	for seed := range int64(150) {
		r := rand.New(rand.NewSource(seed))
		p := made(t, []int{16 + r.Intn(50), 32}, nil)
		pairs := []*pair{newPair(t, p, 0), newPair(t, p, 1)}
		for range 100 {
			if r.Intn(4) == 0 {
				p.Fuse(r.Intn(20))
			}
			c := pairs[r.Intn(2)]
			if k := r.Intn(20); k < 12 {
				c.append(someBytes(r, r.Intn(513)))
			} else if k < 19 {
				c.free(c.somePlace(r))
			} else {
				c.reopen(r)
			}
			if p.On() {
				continue
			}
			keep := make([]int, r.Intn(12))
			for i := range keep {
				keep[i] = r.Intn(5) - 2
			}
			p.Boot(keep)
			for _, c := range pairs {
				c.reopen(r)
				c.all()
			}
		}
	}
}

// TestOldOnesDoNotPanic: objects that the power went off for, or that were opened ahead
// of a Boot.
func TestOldOnesDoNotPanic(t *testing.T) { // R3
	p := made(t, []int{16}, nil)
	h := opens(t, p, 0)
	appends(t, h, ones(5), at(0, 2))
	p.Fuse(1)
	appendsNot(t, h, ones(100), api.ErrPower)
	for range 2 {
		h.Read(at(0, 2))
		h.Free(at(0, 2))
		h.Append(ones(100))
		h.Append(ones(513))
		p.Boot([]int{1})
	}
}

// colliding is b with its last four bytes turned so that sum is want. Each bit that is
// turned turns the same bits of a check sum, whatever the others are.
func colliding(t *testing.T, b []byte, want uint32, sum func(b []byte) uint32) []byte {
	t.Helper()
	var turns, picks [32]uint32 // turns[i] has i as its highest bit, and is made by picks[i]
	end := b[len(b)-4:]
	now := sum(b)
	for bit := range 32 {
		end[bit/8] ^= 1 << (bit % 8)
		turn, pick := sum(b)^now, uint32(1)<<bit
		end[bit/8] ^= 1 << (bit % 8)
		for i := 31; i >= 0 && turn != 0; i-- {
			if turn>>i&1 == 0 {
				continue
			}
			if turns[i] == 0 {
				turns[i], picks[i] = turn, pick
				break
			}
			turn, pick = turn^turns[i], pick^picks[i]
		}
	}
	pick, off := uint32(0), now^want
	for i := 31; i >= 0; i-- {
		if off>>i&1 == 1 {
			pick, off = pick^picks[i], off^turns[i]
		}
	}
	for bit := range 32 {
		end[bit/8] ^= byte(pick>>bit&1) << (bit % 8)
	}
	if sum(b) != want {
		t.Fatal("the check sums do not meet")
	}
	return b
}

// noSum are bytes that leave a check sum as it is, where they are xored in.
var noSum = []byte{0x41, 0x06, 0x71, 0xdb, 0x01}

// frameSum is the check sum of the frame that an Append of b lays down.
func frameSum(x api.Place, tag int, b []byte) uint32 {
	f := frame.Pack(kind, append(label(x, uint64(tag)), b...))
	return crc.Sum(f[:len(f)-4])
}

// over writes b to a place where another object was, and cuts that off when so many
// sectors were written.
func over(t *testing.T, old, b []byte, fuse int, keep []int) *plant.Plant {
	t.Helper()
	p := made(t, []int{16}, nil)
	h := opens(t, p, 0)
	x, e := h.Append(old)
	ok(t, e)
	ok(t, h.Free(x))
	p.Fuse(fuse)
	appendsNot(t, h, b, api.ErrPower)
	p.Boot(keep)
	return p
}

// TestCheckSumsThatMeet: an object over another one, cut off, of which the check sums are
// the same whatever part of either is there. A place with parts of both is neither's.
func TestCheckSumsThatMeet(t *testing.T) { // P14.3, P14.8
	r := rand.New(rand.NewSource(9))
	x := at(0, 9)
	old := someBytes(r, 512)
	b := bytes.Clone(old)
	for i := 1; i < 9; i++ { // in each sector but the first one
		for j, c := range noSum {
			b[pieceSize*i+20+j] ^= c
		}
	}
	// The tags are in the first sector: what they turn is turned back there.
	front := pieceSize - 20
	colliding(t, b[:front], frameSum(x, 0, old), func([]byte) uint32 { return frameSum(x, 10, b) })
	for _, keep := range keeps(9) {
		p := over(t, old, b, 9, keep)
		h := opens(t, p, 0, x)
		kept := 0
		for _, k := range keep {
			kept += k
		}
		switch kept {
		case 0:
			reads(t, h, x, old)
		case 9:
			reads(t, h, x, b)
		default:
			readsNot(t, h, x, api.ErrCorrupt)
		}
	}
}

// TestBytesThatLookLikeAPlace: an object that has a sector of another place among its
// bytes, at each offset; wherever it comes to lie, it is no place.
func TestBytesThatLookLikeAPlace(t *testing.T) { // P14.3, P14.8
	base := made(t, []int{16}, nil)
	h := opens(t, base, 0, at(0, 1))
	appends(t, h, nil, at(1, 1))
	sector, e := base.Read(0, 1)
	ok(t, e)
	for offset := range 512 - len(sector) + 1 {
		b := make([]byte, 512)
		copy(b[offset:], sector)
		p := base.Clone()
		appends(t, opens(t, p, 0), b, at(0, 9))
		for first := 1; first < 9; first++ {
			readsNot(t, opens(t, p, 0, at(first, 1)), at(first, 1), api.ErrCorrupt)
		}
		reads(t, opens(t, p, 0, at(0, 9)), at(0, 9), b)
	}
}

// TestLabelsAreNotAllThereIs: bytes that are a whole frame, with the label and the tag
// that it would need to be a place, at the front of a sector's piece.
func TestLabelsAreNotAllThereIs(t *testing.T) { // P14.3, P14.8
	p := made(t, []int{16}, nil)
	h := opens(t, p, 0)
	inner := make([]byte, pieceSize)
	copy(inner, frame.Pack(kind, label(at(1, 1), uint64(p.Steps()))))
	ahead := len(frame.Pack(kind, label(at(0, 1), 0))) - 4 // the frame's head, and its label
	b := append(make([]byte, pieceSize-ahead), inner...)
	appends(t, h, b, at(0, 3))
	raw, e := p.Read(0, 1)
	ok(t, e)
	if !bytes.HasPrefix(raw, inner) {
		t.Fatal("the frame is not where it should be")
	}
	readsNot(t, opens(t, p, 0, at(1, 1)), at(1, 1), api.ErrCorrupt)
}

// TestMoved: sectors of a place, copied to another one, or to another disk, are none
// that Append wrote there.
func TestMoved(t *testing.T) { // P14.3
	for _, n := range []int{0, 1, 64, 200, 512} {
		p := made(t, []int{32, 32}, nil)
		h := opens(t, p, 0, at(0, 2))
		x := at(2, 1+(n+63)/64)
		appends(t, h, ones(n), x)
		for dev := range 2 {
			for first := range 32 - x.Len {
				y := api.Place{Dev: dev, At: first, Len: x.Len}
				if y == x || first/16 != (first+x.Len-1)/16 {
					continue
				}
				q := p.Clone()
				for i := range x.Len {
					b, e := p.Read(0, x.At+i)
					ok(t, e)
					ok(t, q.Write(dev, first+i, b))
				}
				readsNot(t, opens(t, q, dev, y), y, api.ErrCorrupt)
			}
		}
	}
}
