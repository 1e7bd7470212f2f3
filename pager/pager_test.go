package pager

import (
	"bytes"
	"math"
	"math/rand"
	"testing"

	"muniment/api"
	"muniment/plant"
)

func made(t *testing.T, disks, tapes []int) *plant.Plant {
	t.Helper()
	p, e := plant.New(api.Shape{Disks: disks, Tapes: tapes})
	ok(t, e)
	return p
}

func ok(t *testing.T, e api.Errno) {
	t.Helper()
	if e != api.OK {
		t.Fatalf("answers %d", e)
	}
}

// formatted is a plant with one disk of so many pages, and a pager on it.
func formatted(t *testing.T, pages int) (*plant.Plant, *Pager) {
	t.Helper()
	p := made(t, []int{2 + 8*pages}, nil)
	ok(t, Format(p, 0))
	return p, opens(t, p, 0)
}

func opens(t *testing.T, p *plant.Plant, dev int) *Pager {
	t.Helper()
	g, e := Open(p, dev)
	if e != api.OK || g == nil {
		t.Fatalf("Open(%d): %v, %d", dev, g, e)
	}
	return g
}

// opensNot is of a device that must not open, and that stays as it is.
func opensNot(t *testing.T, p *plant.Plant, dev int, want api.Errno) {
	t.Helper()
	steps := p.Steps()
	if g, e := Open(p, dev); g != nil || e != want {
		t.Fatalf("Open(%d): %v, %d; want %d", dev, g, e, want)
	}
	if p.Steps() != steps {
		t.Fatalf("Open(%d) changed something", dev)
	}
}

func puts(t *testing.T, g *Pager, b []byte, want int) {
	t.Helper()
	if page, e := g.Put(b); page != want || e != api.OK {
		t.Fatalf("Put of %d bytes: %d, %d; want %d", len(b), page, e, want)
	}
}

func putsNot(t *testing.T, g *Pager, b []byte, want api.Errno) {
	t.Helper()
	if page, e := g.Put(b); page != 0 || e != want {
		t.Fatalf("Put of %d bytes: %d, %d; want %d", len(b), page, e, want)
	}
}

func reads(t *testing.T, g *Pager, page int, want []byte) {
	t.Helper()
	if b, e := g.Read(page); !bytes.Equal(b, want) || e != api.OK {
		t.Fatalf("Read(%d): %d, %x; want %x", page, e, b, want)
	}
}

func readsNot(t *testing.T, g *Pager, page int, want api.Errno) {
	t.Helper()
	if b, e := g.Read(page); len(b) > 0 || e != want {
		t.Fatalf("Read(%d): %d, %x; want %d", page, e, b, want)
	}
}

// has holds root and room of a pager.
func has(t *testing.T, g *Pager, root, room int) {
	t.Helper()
	if g.Root() != root || g.Room() != room {
		t.Fatalf("root %d, room for %d; want %d, %d", g.Root(), g.Room(), root, room)
	}
}

// content is all that a disk has.
func content(t *testing.T, p *plant.Plant, dev int) []byte {
	t.Helper()
	n, e := p.Len(dev)
	ok(t, e)
	var all []byte
	for i := range n {
		b, e := p.Read(dev, i)
		ok(t, e)
		all = append(all, b...)
	}
	return all
}

func someBytes(r *rand.Rand, n int) []byte {
	b := make([]byte, n)
	r.Read(b)
	return b
}

// wrongPages are numbers that are no page's of a disk of so many.
func wrongPages(pages int) []int {
	return []int{math.MinInt, math.MinInt + 1, -1 << 32, -385, -384, -9, -8, -7, -2, -1,
		pages, pages + 1, pages + 8, max(pages, 383), 384, 385, 400, 1 << 16, 1 << 32, 1<<32 + 1, math.MaxInt - 1, math.MaxInt}
}

func TestExamples(t *testing.T) { // P9.1 to P9.7
	a, b, c := []byte("a"), []byte("b"), []byte("c")
	p, g := formatted(t, 4)
	has(t, g, -1, 4)
	puts(t, g, a, 0)
	puts(t, g, b, 1)
	has(t, g, -1, 2)
	ok(t, g.Commit(1))
	has(t, g, 1, 2)
	ok(t, g.Free(0))
	puts(t, g, c, 2)
	readsNot(t, g, 0, api.ErrPage)
	g = opens(t, p, 0)
	has(t, g, 1, 2)
	reads(t, g, 0, a)
	readsNot(t, g, 2, api.ErrPage)
	ok(t, g.Free(0))
	ok(t, g.Commit(1))
	puts(t, g, c, 0)
	putsNot(t, g, make([]byte, 501), api.ErrLong)
	if e := g.Commit(3); e != api.ErrPage {
		t.Errorf("Commit of a free page: %d", e)
	}
}

func TestDevicesThatHoldNone(t *testing.T) { // P9.1, P9.2
	p := made(t, []int{1, 2, 9, 10, 34}, []int{34, 10, 4096})
	ok(t, p.Write(3, 0, make([]byte, 64)))
	for _, dev := range []int{math.MinInt, -385, -1, 0, 1, 2, 5, 6, 7, 8, 12, 1 << 32, math.MaxInt} {
		for _, on := range []bool{true, false} {
			q := p.Clone()
			if !on {
				q.Fuse(0)
				q.Flush(3)
			}
			steps := q.Steps()
			if e := Format(q, dev); e != api.ErrArg {
				t.Errorf("Format(%d): %d", dev, e)
			}
			opensNot(t, q, dev, api.ErrArg)
			if q.Steps() != steps {
				t.Errorf("Format(%d) did something", dev)
			}
		}
	}
	for _, dev := range []int{3, 4} {
		opensNot(t, p, dev, api.ErrCorrupt)
		ok(t, Format(p, dev))
		opens(t, p, dev)
	}
	for _, dev := range []int{0, 1, 2} {
		if had := content(t, p, dev); !bytes.Equal(had, make([]byte, len(had))) {
			t.Errorf("disk %d was written to", dev)
		}
	}
}

// TestHowManyPagesADiskHas: all sizes of which another one would make a page more.
func TestHowManyPagesADiskHas(t *testing.T) { // P9.1, P9.3, P9.7
	for sectors, want := range map[int]int{
		10: 1, 11: 1, 17: 1, 18: 2, 25: 2, 26: 3, 34: 4, 385: 47, 386: 48, 402: 50,
		2 + 8*383: 383, 2 + 8*384 - 1: 383, 2 + 8*384: 384, 2 + 8*385: 384, 4096: 384,
	} {
		p := made(t, []int{sectors}, nil)
		ok(t, Format(p, 0))
		g := opens(t, p, 0)
		has(t, g, -1, want)
		for page := range want {
			puts(t, g, []byte{byte(page), byte(page >> 8)}, page)
			has(t, g, -1, want-page-1)
		}
		putsNot(t, g, nil, api.ErrFull)
		ok(t, g.Commit(want-1))
		p.Boot(nil)
		g = opens(t, p, 0)
		has(t, g, want-1, 0)
		for page := range want {
			reads(t, g, page, []byte{byte(page), byte(page >> 8)})
		}
		for _, page := range wrongPages(want) {
			readsNot(t, g, page, api.ErrPage)
			if e := g.Free(page); e != api.ErrPage {
				t.Fatalf("Free(%d) of %d pages: %d", page, want, e)
			}
			if e := g.Commit(page); page != -1 && e != api.ErrPage {
				t.Fatalf("Commit(%d) of %d pages: %d", page, want, e)
			}
		}
	}
}

// TestOnePage: a disk that has no other one.
func TestOnePage(t *testing.T) { // P9.3, P9.4, P9.6
	_, g := formatted(t, 1)
	puts(t, g, []byte("a"), 0)
	putsNot(t, g, []byte("b"), api.ErrFull)
	ok(t, g.Free(0))
	puts(t, g, []byte("b"), 0)
	ok(t, g.Commit(0))
	ok(t, g.Free(0))
	has(t, g, 0, 0)
	putsNot(t, g, []byte("c"), api.ErrFull) // it is committed
	ok(t, g.Commit(-1))
	has(t, g, -1, 1)
	puts(t, g, []byte("c"), 0)
}

func TestEachLengthComesBack(t *testing.T) { // P9.3, P9.5, P9.9
	r := rand.New(rand.NewSource(1))
	p, g := formatted(t, 3)
	for n := range 501 {
		for _, b := range [][]byte{someBytes(r, n), make([]byte, n), bytes.Repeat([]byte{255}, n)} {
			page, e := g.Put(b)
			ok(t, e)
			reads(t, g, page, b)
			ok(t, g.Commit(page))
			reads(t, opens(t, p, 0), page, b)
			ok(t, g.Free(page))
		}
	}
	reads(t, opens(t, p, 0), opens(t, p, 0).Root(), bytes.Repeat([]byte{255}, 500))
}

func TestWhatIsLong(t *testing.T) { // P9.3, R2
	p, g := formatted(t, 2)
	steps := p.Steps()
	for _, n := range []int{501, 502, 512, 1000, 65536, 65537, 1 << 20} {
		putsNot(t, g, make([]byte, n), api.ErrLong)
	}
	has(t, g, -1, 2)
	readsNot(t, g, 0, api.ErrPage)
	if p.Steps() != steps {
		t.Errorf("Put of what is long did something")
	}
	puts(t, g, make([]byte, 500), 0)
	puts(t, g, nil, 1)
	steps = p.Steps()
	putsNot(t, g, make([]byte, 501), api.ErrLong) // ahead of ErrFull
	putsNot(t, g, nil, api.ErrFull)
	if p.Steps() != steps {
		t.Errorf("Put where there is no room did something")
	}
}

// TestFreePages: which are free behind Free, with Commit and without.
func TestFreePages(t *testing.T) { // P9.3, P9.4, P9.7
	p, g := formatted(t, 5)
	for page := range 4 {
		puts(t, g, []byte{byte(page)}, page)
	}
	ok(t, g.Free(1)) // not committed: at once
	has(t, g, -1, 2)
	ok(t, g.Free(0))
	has(t, g, -1, 3)
	puts(t, g, []byte("again"), 0)
	reads(t, g, 0, []byte("again"))
	ok(t, g.Commit(3)) // 0, 2 and 3
	has(t, g, 3, 2)
	ok(t, g.Free(0)) // committed: behind the next one
	ok(t, g.Free(3))
	has(t, g, 3, 2)
	readsNot(t, g, 0, api.ErrPage)
	readsNot(t, g, 3, api.ErrPage)
	for _, page := range []int{0, 1, 3, 4} {
		if e := g.Free(page); e != api.ErrPage {
			t.Errorf("Free(%d): %d", page, e)
		}
		if e := g.Commit(page); e != api.ErrPage {
			t.Errorf("Commit(%d): %d", page, e)
		}
	}
	puts(t, g, []byte("one"), 1)
	puts(t, g, []byte("four"), 4)
	putsNot(t, g, nil, api.ErrFull)
	ok(t, g.Free(1)) // committed it never was
	puts(t, g, []byte("uno"), 1)
	ok(t, g.Commit(1))
	has(t, g, 1, 2)
	puts(t, g, []byte("zero"), 0)
	puts(t, g, []byte("three"), 3)
	ok(t, g.Commit(-1))
	g = opens(t, p, 0)
	has(t, g, -1, 0)
	for page, s := range []string{"zero", "uno", "\x02", "three", "four"} {
		reads(t, g, page, []byte(s))
	}
}

// TestRoots: the committed one is told, whatever is given up; a wrong one changes
// nothing.
func TestRoots(t *testing.T) { // P9.6, P9.7
	p, g := formatted(t, 4)
	for _, page := range []int{-2, 0, 3, 4, math.MaxInt, math.MinInt} {
		steps := p.Steps()
		if e := g.Commit(page); e != api.ErrPage || p.Steps() != steps {
			t.Errorf("Commit(%d) without pages: %d", page, e)
		}
	}
	ok(t, g.Commit(-1))
	puts(t, g, []byte("a"), 0)
	puts(t, g, []byte("b"), 1)
	has(t, opens(t, p, 0), -1, 4)
	ok(t, g.Commit(0))
	ok(t, g.Free(0))
	has(t, g, 0, 2)
	if e := g.Commit(0); e != api.ErrPage {
		t.Errorf("Commit of a page that was given up: %d", e)
	}
	has(t, opens(t, p, 0), 0, 2)
	reads(t, opens(t, p, 0), 0, []byte("a"))
	ok(t, g.Commit(1))
	has(t, g, 1, 3)
	ok(t, g.Commit(-1))
	has(t, g, -1, 3)
	reads(t, opens(t, p, 0), 1, []byte("b"))
	has(t, opens(t, p, 0), -1, 3)
}

func TestNothingUncommittedIsLeft(t *testing.T) { // P9.2, P9.8
	p, g := formatted(t, 4)
	puts(t, g, []byte("a"), 0)
	puts(t, g, []byte("b"), 1)
	ok(t, g.Commit(0))
	puts(t, g, []byte("c"), 2)
	ok(t, g.Free(0))
	ok(t, g.Free(1))
	for _, boot := range []bool{false, true} {
		if boot {
			p.Boot([]int{1})
		}
		g = opens(t, p, 0)
		has(t, g, 0, 2)
		reads(t, g, 0, []byte("a"))
		reads(t, g, 1, []byte("b"))
		readsNot(t, g, 2, api.ErrPage)
		puts(t, g, []byte("d"), 2)
		puts(t, g, []byte("e"), 3)
		ok(t, g.Free(3))
	}
}

// TestThePowerIsOff: errors that need no device are told first.
func TestThePowerIsOff(t *testing.T) { // R2, R3
	p, g := formatted(t, 2)
	puts(t, g, []byte("a"), 0)
	ok(t, g.Commit(0))
	full := opens(t, p, 0)
	puts(t, full, []byte("b"), 1)
	p.Fuse(0)
	if e := p.Flush(0); e != api.ErrPower {
		t.Fatalf("not cut off: %d", e)
	}
	opensNot(t, p, 0, api.ErrPower)
	if e := Format(p, 0); e != api.ErrPower {
		t.Errorf("Format: %d", e)
	}
	has(t, g, 0, 1)
	putsNot(t, g, make([]byte, 501), api.ErrLong)
	putsNot(t, full, nil, api.ErrFull)
	putsNot(t, g, nil, api.ErrPower)
	readsNot(t, g, 1, api.ErrPage)
	readsNot(t, g, 0, api.ErrPower)
	if e := g.Commit(1); e != api.ErrPage {
		t.Errorf("Commit(1): %d", e)
	}
	if e := g.Commit(0); e != api.ErrPower {
		t.Errorf("Commit(0): %d", e)
	}
	if e := g.Free(1); e != api.ErrPage {
		t.Errorf("Free(1): %d", e)
	}
	p.Boot(nil)
	has(t, opens(t, p, 0), 0, 1)
	reads(t, opens(t, p, 0), 0, []byte("a"))
}

// TestOldOnesBehindABoot: none of their calls panics, and none that only asks
// changes what a new one answers.
func TestOldOnesBehindABoot(t *testing.T) { // R3
	p, g := formatted(t, 3)
	puts(t, g, []byte("a"), 0)
	ok(t, g.Commit(0))
	puts(t, g, []byte("b"), 1)
	p.Boot(nil)
	h := opens(t, p, 0)
	for page := -1; page < 4; page++ {
		g.Read(page)
	}
	g.Root()
	g.Room()
	has(t, h, 0, 2)
	reads(t, h, 0, []byte("a"))
	g.Free(1)
	g.Put([]byte("c"))
	g.Commit(0)
}

func TestTwoDisks(t *testing.T) { // P9.1, P9.2, P9.9
	p := made(t, []int{34, 18, 34}, []int{9})
	ok(t, Format(p, 0))
	ok(t, Format(p, 1))
	opensNot(t, p, 2, api.ErrCorrupt)
	g, h := opens(t, p, 0), opens(t, p, 1)
	puts(t, g, []byte("a"), 0)
	puts(t, h, []byte("b"), 0)
	puts(t, h, []byte("c"), 1)
	ok(t, h.Commit(1))
	has(t, g, -1, 3)
	p.Boot([]int{0})
	g, h = opens(t, p, 0), opens(t, p, 1)
	has(t, g, -1, 4)
	has(t, h, 1, 0)
	puts(t, g, []byte("d"), 0)
	ok(t, g.Commit(0))
	ok(t, Format(p, 1))
	reads(t, opens(t, p, 0), 0, []byte("d"))
	has(t, opens(t, p, 1), -1, 2)
	if had := content(t, p, 2); !bytes.Equal(had, make([]byte, len(had))) {
		t.Errorf("another disk was written to")
	}
}

// TestBehindThePages: sectors that are no page's are not written to.
func TestBehindThePages(t *testing.T) { // P9.3
	for _, sectors := range []int{17, 4096} {
		p := made(t, []int{sectors}, nil)
		end := 2 + 8*min((sectors-2)/8, 384)
		for i := end; i < sectors; i++ {
			ok(t, p.Write(0, i, bytes.Repeat([]byte{7}, 64)))
		}
		ok(t, Format(p, 0))
		g := opens(t, p, 0)
		for g.Room() > 0 {
			_, e := g.Put(bytes.Repeat([]byte{9}, 500))
			ok(t, e)
		}
		ok(t, g.Commit(0))
		if !bytes.Equal(content(t, p, 0)[64*end:], bytes.Repeat([]byte{7}, 64*(sectors-end))) {
			t.Errorf("%d sectors: written behind the pages", sectors)
		}
	}
}

// TestMemory: what is handed in is neither changed nor kept, what comes out is the
// caller's.
func TestMemory(t *testing.T) { // R5, R6
	r := rand.New(rand.NewSource(2))
	p, g := formatted(t, 8)
	for i, n := range []int{0, 1, 63, 64, 100, 499, 500} {
		room := someBytes(r, 700)
		was := bytes.Clone(room)
		puts(t, g, room[:n], i)
		if !bytes.Equal(room, was) {
			t.Fatalf("Put changed what it was given")
		}
		clear(room)
		reads(t, g, i, was[:n])
		b, _ := g.Read(i)
		c, _ := g.Read(i)
		b, c = b[:cap(b)], c[:cap(c)]
		for j := range b {
			b[j] ^= 255
		}
		if len(c) > 0 && bytes.Equal(b, c) {
			t.Fatalf("two answers share memory")
		}
		reads(t, g, i, was[:n])
		ok(t, g.Commit(i))
		clear(c)
		reads(t, opens(t, p, 0), i, was[:n])
	}
	puts(t, g, []byte{}, 7)
	reads(t, g, 7, nil)
}
