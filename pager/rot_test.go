package pager

import (
	"bytes"
	"math"
	"math/rand"
	"testing"

	"muniment/api"
	"muniment/crc"
	"muniment/plant"
)

// used is a disk of six pages: 0, 2 and 3 (the root) are committed; 1 and 4 have
// what was given up, 5 nothing.
func used(t *testing.T) (*plant.Plant, *plain) {
	t.Helper()
	r := rand.New(rand.NewSource(1))
	x := newRun(t, made(t, []int{2 + 6*8 + 1}, nil), 0, nil)
	x.format()
	x.open()
	for _, n := range []int{500, 100, 0, 1, 499} {
		x.put(someBytes(r, n))
	}
	x.commit(0)
	x.free(1)
	x.free(4)
	x.commit(3)
	return x.p, x.m
}

// goesOn asks all that may be asked of the pager of a disk that rotted.
func goesOn(t *testing.T, p *plant.Plant, g *Pager) {
	t.Helper()
	pages := pagesOf(p, 0)
	room, root := g.Room(), g.Root()
	if room < 0 || room > pages || root < -1 || root >= pages {
		t.Fatalf("room for %d, root %d of %d pages", room, root, pages)
	}
	for _, page := range append(wrongPages(pages), 0, 1, 2, 3, 4, 5) {
		if b, e := g.Read(page); len(b) > 500 || e != api.OK && (len(b) > 0 || e != api.ErrPage && e != api.ErrCorrupt) {
			t.Fatalf("Read(%d): %d bytes, %d", page, len(b), e)
		}
	}
	page, e := g.Put([]byte("new"))
	if room == 0 {
		if page != 0 || e != api.ErrFull {
			t.Fatalf("Put where there is no room: %d, %d", page, e)
		}
		page = -1
	} else {
		ok(t, e)
		reads(t, g, page, []byte("new"))
	}
	ok(t, g.Commit(page))
	g = opens(t, p, 0)
	if g.Root() != page {
		t.Fatalf("root %d; want %d", g.Root(), page)
	}
	if page >= 0 {
		reads(t, g, page, []byte("new"))
		ok(t, g.Free(page))
	}
	ok(t, g.Commit(-1))
	has(t, opens(t, p, 0), -1, room)
	ok(t, Format(p, 0))
	has(t, opens(t, p, 0), -1, pages)
}

// TestAnyByteRots: the sums know of any single byte, so that no other pages, no
// other root, and no other bytes are told.
func TestAnyByteRots(t *testing.T) { // P9.2, P9.5, R4
	p, m := used(t)
	for place := range 51 {
		for at := range 64 {
			for _, by := range []int{1, 0x80, 0xff, 0x54} {
				q := p.Clone()
				if !q.Rot(0, place, at, by) {
					t.Fatalf("Rot")
				}
				if place < headCount {
					opensNot(t, q, 0, api.ErrCorrupt)
					ok(t, Format(q, 0))
					has(t, opens(t, q, 0), -1, 6)
					continue
				}
				rotted := (place - headCount) / api.PageSectors
				g := opens(t, q, 0)
				has(t, g, m.root, len(m.free()))
				for page := range 6 {
					b, isUsed := m.used[page]
					switch {
					case !isUsed:
						readsNot(t, g, page, api.ErrPage)
					case page == rotted:
						readsNot(t, g, page, api.ErrCorrupt)
					default:
						reads(t, g, page, b)
					}
				}
				if at == place { // some of them
					goesOn(t, q, g)
				}
			}
		}
	}
}

// TestAPageThatRotted: it is in use as any other one, till it is given up.
func TestAPageThatRotted(t *testing.T) { // P9.4, P9.5, P9.6
	p, m := used(t)
	p.Rot(0, firstSector(3)+7, 63, 1)
	g := opens(t, p, 0)
	readsNot(t, g, 3, api.ErrCorrupt)
	ok(t, g.Commit(3))
	g = opens(t, p, 0)
	has(t, g, 3, 3)
	readsNot(t, g, 3, api.ErrCorrupt)
	ok(t, g.Free(3))
	readsNot(t, g, 3, api.ErrPage)
	ok(t, g.Commit(0))
	puts(t, g, []byte("b"), 1)
	puts(t, g, []byte("d"), 3)
	ok(t, g.Commit(3))
	g = opens(t, p, 0)
	reads(t, g, 3, []byte("d"))
	reads(t, g, 0, m.used[0])
}

// TestRotUnderAPut: what waits is not what rots, and Commit lays it over.
func TestRotUnderAPut(t *testing.T) { // P9.5, P9.6
	p, g := formatted(t, 2)
	puts(t, g, []byte("a"), 0)
	for place := 2; place < 10; place++ {
		p.Rot(0, place, 7, 255)
	}
	reads(t, g, 0, []byte("a"))
	ok(t, g.Commit(0))
	p.Boot(nil)
	reads(t, opens(t, p, 0), 0, []byte("a"))
}

func TestManyBytesRot(t *testing.T) { // R1, R4
	p, _ := used(t)
	r := rand.New(rand.NewSource(2))
	for range 3000 {
		q := p.Clone()
		for range 1 + r.Intn(20) {
			q.Rot(0, headCount+r.Intn(49), r.Intn(64), r.Intn(256))
		}
		goesOn(t, q, opens(t, q, 0))
		q.Rot(0, r.Intn(2), r.Intn(64), 1+r.Intn(255))
		opensNot(t, q, 0, api.ErrCorrupt)
	}
}

func TestDisksOfAnyBytes(t *testing.T) { // P9.2, R1
	r := rand.New(rand.NewSource(3))
	for range 300 {
		p := made(t, []int{18}, nil)
		for i := range 18 {
			ok(t, p.Write(0, i, someBytes(r, 64)))
		}
		opensNot(t, p, 0, api.ErrCorrupt)
		ok(t, Format(p, 0))
		has(t, opens(t, p, 0), -1, 2)
	}
	for c := range 256 {
		p := made(t, []int{18}, nil)
		for i := range 18 {
			ok(t, p.Write(0, i, bytes.Repeat([]byte{byte(c)}, 64)))
		}
		opensNot(t, p, 0, api.ErrCorrupt)
		ok(t, Format(p, 0))
		has(t, opens(t, p, 0), -1, 2)
	}
}

// summed are these bytes with a right sum behind them.
func summed(b []byte) sector {
	var s sector
	copy(s[:sumAt], b)
	layNumber(s[sumAt:], uint64(crc.Sum(s[:sumAt])))
	return s
}

// TestHeadsThatAreNone: their sums hold, but no commit of two pages is like that.
func TestHeadsThatAreNone(t *testing.T) { // P9.2, R1
	right := head{number: 5, root: 1, used: set{2}}
	older := head{number: 4, root: none}
	behindMark := right.sector()
	p := made(t, []int{18}, nil)
	ok(t, Format(p, 0))
	g := opens(t, withHeads(t, p, older.sector(), right.sector()), 0)
	has(t, g, 1, 1)
	readsNot(t, g, 1, api.ErrCorrupt) // nothing was ever put there
	has(t, opens(t, withHeads(t, p, head{number: 6, root: none}.sector(), right.sector()), 0), -1, 2)
	for name, s := range map[string]sector{
		"noughts":                   {},
		"noughts, and their sum":    summed(nil),
		"a frame of another layer":  summed(append([]byte{0, 0, 0, 55, 'J'}, make([]byte, 55)...)),
		"another mark":              summed(append([]byte("GP"), behindMark[rootAt:sumAt]...)),
		"half a mark":               summed(append([]byte("P"), make([]byte, 59)...)),
		"a root not in use":         head{number: 5, root: 0, used: set{2}}.sector(),
		"a root behind the pages":   head{number: 5, root: 2, used: set{2}}.sector(),
		"a root that is none's":     head{number: 5, root: 384, used: set{2}}.sector(),
		"the greatest root":         head{number: 5, root: 65534, used: set{2}}.sector(),
		"a page too many":           head{number: 5, root: 1, used: set{6}}.sector(),
		"the last page of all":      head{number: 5, root: 1, used: set{2, 47: 128}}.sector(),
		"a root past the disk":      head{number: 5, root: 2, used: set{4}}.sector(),
		"a number of the other one": head{number: 6, root: none}.sector(),
		"the same number":           head{number: 4, root: none}.sector(),
		"a later number":            head{number: 7, root: none}.sector(),
		"an older number":           head{number: 1, root: none}.sector(),
		"the greatest number":       head{number: math.MaxUint64, root: none}.sector(),
	} {
		t.Run(name, func(t *testing.T) {
			opensNot(t, withHeads(t, p, older.sector(), s), 0, api.ErrCorrupt)
		})
	}
	// A sum alone makes no head: other layers lay such sectors down.
	var unmarked [headCount]sector
	for slot, h := range []head{older, right} {
		s := h.sector()
		unmarked[slot] = summed(append(make([]byte, len(mark)), s[rootAt:sumAt]...))
	}
	opensNot(t, withHeads(t, p, unmarked[0], unmarked[1]), 0, api.ErrCorrupt)
	// As the older one of both it must be right, too.
	for name, s := range map[string]sector{
		"noughts":           {},
		"a root not in use": head{number: 4, root: 0, used: set{2}}.sector(),
		"a page too many":   head{number: 4, root: none, used: set{4}}.sector(),
		"an older number":   head{number: 2, root: none}.sector(),
		"the same number":   head{number: 5, root: none}.sector(),
		"number 0":          head{number: 0, root: none}.sector(),
		"a later number":    head{number: 8, root: none}.sector(),
	} {
		t.Run("older: "+name, func(t *testing.T) {
			opensNot(t, withHeads(t, p, s, right.sector()), 0, api.ErrCorrupt)
		})
	}
}

// TestAnyHeadsOfRightSums: rot may turn bytes so that all sums hold. Whatever opens
// then goes on as a pager does.
func TestAnyHeadsOfRightSums(t *testing.T) { // P9.2, R1
	r := rand.New(rand.NewSource(4))
	opened := 0
	for range 3000 {
		p := made(t, []int{2 + 8*(1+r.Intn(8))}, nil)
		number := []uint64{0, 1, 2, 1 << 32, math.MaxInt64, math.MaxUint64 - 1, math.MaxUint64}[r.Intn(7)]
		var s [2]sector
		for range 2 {
			h := head{number: number, root: r.Intn(5) - 1}
			for page := range 8 {
				if r.Intn(2) == 0 {
					h.used = h.used.with(page)
				}
			}
			if r.Intn(20) == 0 {
				h.used[r.Intn(48)] = byte(r.Intn(256))
			}
			s[h.slot()] = h.sector()
			number++
		}
		p = withHeads(t, p, s[0], s[1])
		g, e := Open(p, 0)
		switch {
		case e == api.OK && g != nil:
			opened++
			goesOn(t, p, g)
		case e != api.ErrCorrupt || g != nil:
			t.Fatalf("Open: %v, %d", g, e)
		}
	}
	if opened == 0 {
		t.Errorf("nothing was ever opened")
	}
}

// forged is an image of which any length, and any bytes behind them, are told.
func forged(length int, b []byte) image {
	var x image
	layNumber(x[lengthAt:bytesAt], uint64(length))
	copy(x[bytesAt:imageSumAt], b)
	layNumber(x[imageSumAt:], uint64(crc.Sum(x[:imageSumAt])))
	return x
}

// TestImagesThatAreNoPages: their sums hold, or they are as a disk has them at first.
func TestImagesThatAreNoPages(t *testing.T) { // P9.5, R1
	p, g := formatted(t, 1)
	puts(t, g, []byte("a"), 0)
	ok(t, g.Commit(0))
	for name, x := range map[string]image{
		"noughts":           {},
		"501 bytes":         forged(501, nil),
		"506 bytes":         forged(506, nil),
		"512 bytes":         forged(512, nil),
		"65535 bytes":       forged(65535, bytes.Repeat([]byte{1}, 506)),
		"more than it says": forged(2, []byte("abc")),
		"more than may be":  forged(500, bytes.Repeat([]byte{1}, 501)),
		"none, and more":    forged(0, []byte{499: 1}),
	} {
		q := p.Clone()
		ok(t, writeImage(q, 0, 0, x))
		ok(t, q.Flush(0))
		h := opens(t, q, 0)
		if b, e := h.Read(0); len(b) > 0 || e != api.ErrCorrupt {
			t.Errorf("%s: %d bytes, %d", name, len(b), e)
		}
		goesOn(t, q, h)
	}
	for _, n := range []int{0, 1, 499, 500} {
		q := p.Clone()
		ok(t, writeImage(q, 0, 0, forged(n, bytes.Repeat([]byte{1}, n))))
		reads(t, opens(t, q, 0), 0, bytes.Repeat([]byte{1}, n))
	}
}
