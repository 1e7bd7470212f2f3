package coldvol

import (
	"bytes"
	"math"
	"math/rand"
	"slices"
	"strings"
	"testing"

	"muniment/api"
	"muniment/plant"
	"muniment/tree"
)

func made(t *testing.T, disks, tapes []int) *plant.Plant {
	t.Helper()
	p, e := plant.New(api.Shape{Disks: disks, Tapes: tapes})
	ok(t, e)
	return p
}

func ok(t *testing.T, e api.Errno) {
	t.Helper()
	if e != api.OK {
		t.Fatalf("answers %d", e)
	}
}

// at is a place of the device 0.
func at(first, n int) api.Place { return api.Place{At: first, Len: n} }

func opens(t *testing.T, p *plant.Plant, dev int) *Volume {
	t.Helper()
	steps := p.Steps()
	v, e := Open(p, dev)
	if v == nil || e != api.OK || p.Steps() != steps {
		t.Fatalf("Open(%d): %v, %d", dev, v, e)
	}
	return v
}

// one is a tape of so many blocks on a plant of its own: the device 0.
func one(t *testing.T, blocks int) (*plant.Plant, *Volume) {
	t.Helper()
	p := made(t, nil, []int{blocks})
	return p, opens(t, p, 0)
}

func appends(t *testing.T, v *Volume, id string, b []byte, want api.Place) {
	t.Helper()
	if x, e := v.Append(id, b); x != want || e != api.OK {
		t.Fatalf("Append(%q, %d bytes): %v, %d; want %v", id, len(b), x, e, want)
	}
}

// appendsNot holds that an Append is refused, and that nothing was written.
func appendsNot(t *testing.T, v *Volume, id string, b []byte, want api.Errno) {
	t.Helper()
	steps := v.p.Steps()
	if x, e := v.Append(id, b); x != (api.Place{}) || e != want || v.p.Steps() != steps {
		t.Fatalf("Append(%q, %d bytes): %v, %d; want %d", id, len(b), x, e, want)
	}
}

func reads(t *testing.T, v *Volume, x api.Place, id string, want []byte) {
	t.Helper()
	if got, b, e := v.Read(x); got != id || !bytes.Equal(b, want) || e != api.OK {
		t.Fatalf("Read(%v): %q, %x, %d; want %q, %x", x, got, b, e, id, want)
	}
}

func readsNot(t *testing.T, v *Volume, x api.Place, want api.Errno) {
	t.Helper()
	if id, b, e := v.Read(x); id != "" || len(b) > 0 || e != want {
		t.Fatalf("Read(%v): %q, %x, %d; want %d", x, id, b, e, want)
	}
}

func lists(t *testing.T, v *Volume, want ...api.Place) {
	t.Helper()
	if l := v.List(); !slices.Equal(l, want) {
		t.Fatalf("List: %v; want %v", l, want)
	}
}

func roomIs(t *testing.T, v *Volume, want int) {
	t.Helper()
	if n := v.Room(); n != want {
		t.Fatalf("Room: %d; want %d", n, want)
	}
}

// sealsNot holds that a Seal is refused, and that nothing was written.
func sealsNot(t *testing.T, v *Volume, want api.Errno) {
	t.Helper()
	steps := v.p.Steps()
	if e := v.Seal(); e != want || v.p.Steps() != steps {
		t.Fatalf("Seal: %d; want %d", e, want)
	}
}

func isOpen(t *testing.T, v *Volume) {
	t.Helper()
	if root, sealed := v.Root(); root != (api.Hash{}) || sealed {
		t.Fatalf("Root of one that is not sealed: %x, %v", root, sealed)
	}
}

// isClosed holds that a volume is sealed with this root, and takes nothing more.
func isClosed(t *testing.T, v *Volume, want api.Hash) {
	t.Helper()
	if root, sealed := v.Root(); root != want || !sealed {
		t.Fatalf("Root: %x, %v; want %x", root, sealed, want)
	}
	roomIs(t, v, 0)
	appendsNot(t, v, "a", nil, api.ErrFull)
	appendsNot(t, v, "a", ones(512), api.ErrFull)
	appendsNot(t, v, "a", ones(513), api.ErrLong)
	appendsNot(t, v, "A", nil, api.ErrArg)
	sealsNot(t, v, api.ErrFull)
}

func lengthOf(t *testing.T, p *plant.Plant, dev int) int {
	t.Helper()
	n, e := p.Len(dev)
	ok(t, e)
	return n
}

// lay writes a block to a tape, past any volume.
func lay(t *testing.T, p *plant.Plant, dev int, b []byte) {
	t.Helper()
	_, e := p.Append(dev, b)
	ok(t, e)
}

func someBytes(r *rand.Rand, n int) []byte {
	b := make([]byte, n)
	r.Read(b)
	return b
}

func someName(r *rand.Rand) string {
	const letters = "abcdefghijklmnopqrstuvwxyz0123456789-."
	b := make([]byte, 1+r.Intn(16))
	for i := range b {
		b[i] = letters[r.Intn(len(letters))]
	}
	return string(b)
}

// spoil turns all bytes, those of the spare room too.
func spoil(b []byte) {
	b = b[:cap(b)]
	for i := range b {
		b[i] ^= 0xa5
	}
}

// ones is what an object of n bytes has, if it does not matter.
func ones(n int) []byte { return bytes.Repeat([]byte{1}, n) }

// off turns the power off.
func off(p *plant.Plant) {
	p.Fuse(0)
	p.Flush(0)
}

// blocksOf is Blocks, counted out.
func blocksOf(length int) int {
	n := 2
	for ; length > 0; length -= 56 {
		n++
	}
	return n
}

func TestExamples(t *testing.T) { // P15.1 to P15.6
	for n, want := range map[int]int{0: 2, 1: 3, 56: 3, 57: 4, 512: 12, 513: 0, -1: 0} {
		if got := Blocks(n); got != want {
			t.Errorf("Blocks(%d): %d; want %d", n, got, want)
		}
	}
	_, v := one(t, 16)
	b := bytes.Repeat([]byte("01234567"), 8)
	roomIs(t, v, 14)
	appends(t, v, "a", b, at(0, 4))
	roomIs(t, v, 10)
	appendsNot(t, v, "b", ones(512), api.ErrFull)
	reads(t, v, at(0, 4), "a", b)
	readsNot(t, v, at(0, 3), api.ErrCorrupt)
	readsNot(t, v, at(1, 4), api.ErrCorrupt)
	ok(t, v.Seal())
	sealsNot(t, v, api.ErrFull)
	appendsNot(t, v, "c", nil, api.ErrFull)
	roomIs(t, v, 0)
}

func TestBlocks(t *testing.T) { // the chapter's words on volumes
	for n := range 513 {
		if got := Blocks(n); got != blocksOf(n) {
			t.Errorf("Blocks(%d): %d; want %d", n, got, blocksOf(n))
		}
	}
	for n, want := range map[int]int{55: 3, 56: 3, 112: 4, 113: 5, 504: 11, 505: 12} {
		if got := Blocks(n); got != want {
			t.Errorf("Blocks(%d): %d; want %d", n, got, want)
		}
	}
	for _, n := range []int{math.MinInt, math.MinInt + 1, -513, -512, -57, -56, -55, -2, -1, 513, 514, 568, 1 << 16, 1 << 32, math.MaxInt - 55, math.MaxInt} {
		if got := Blocks(n); got != 0 {
			t.Errorf("Blocks(%d): %d; want 0", n, got)
		}
	}
}

// TestBlocksIsWhatIsWritten: an object of any length takes as many blocks as Blocks says,
// one step each.
func TestBlocksIsWhatIsWritten(t *testing.T) { // P15.2
	r := rand.New(rand.NewSource(1))
	for n := range 513 {
		p, v := one(t, 20)
		b := someBytes(r, n)
		appends(t, v, "x", b, at(0, blocksOf(n)))
		if lengthOf(t, p, 0) != blocksOf(n) || p.Steps() != blocksOf(n) {
			t.Fatalf("%d bytes: %d blocks, %d steps", n, lengthOf(t, p, 0), p.Steps())
		}
		reads(t, v, at(0, blocksOf(n)), "x", b)
		roomIs(t, v, 18-blocksOf(n))
	}
}

func TestOpenOfNoTape(t *testing.T) { // P15.1
	shapes := []api.Shape{{Disks: []int{4, 16, 20}, Tapes: []int{16, 3}}, {Disks: []int{9}}, {Tapes: []int{9}}, {Disks: []int{1}, Tapes: []int{1, 1, 1, 1}}}
	for _, s := range shapes {
		p := made(t, s.Disks, s.Tapes)
		first, behind := len(s.Disks), len(s.Disks)+len(s.Tapes)
		for _, dev := range []int{math.MinInt, math.MinInt + 3, -2, -1, 0, 1, 2, 3, 4, 5, 6, 11, 12, 1 << 32, 1<<32 + 3, math.MaxInt} {
			if dev >= first && dev < behind {
				roomIs(t, opens(t, p, dev), max(0, s.Tapes[dev-first]-2))
				continue
			}
			if v, e := Open(p, dev); v != nil || e != api.ErrArg {
				t.Errorf("Open(%d) of %v: %v, %d", dev, s, v, e)
			}
		}
		if p.Steps() != 0 {
			t.Errorf("Open did %d steps", p.Steps())
		}
	}
}

func TestNames(t *testing.T) { // P15.2, P15.4
	good := []string{"a", "z", "0", "9", "-", ".", "..", "--", "a-1.x", "abcdefghijklmnop", "qrstuvwxyz012345", "6789-.----------", "...............a"}
	for _, id := range good {
		_, v := one(t, 20)
		appends(t, v, id, []byte("b"), at(0, 3))
		reads(t, v, at(0, 3), id, []byte("b"))
	}
	bad := []string{"", "A", "Z", "a b", " ", "a ", " a", "a\n", "\x00", "a\x00", "/", ":", "_", ",", "`", "{", "@", "[", "\xff", "ä", "abcdefghijklmnopq", strings.Repeat("a", 17), strings.Repeat("a", 600), "a-1.X", "abcdefghijklmnoP"}
	for _, id := range bad {
		_, v := one(t, 20)
		appendsNot(t, v, id, []byte("b"), api.ErrArg)
	}
	for c := range 256 {
		_, v := one(t, 20)
		id := "q" + string([]byte{byte(c)})
		is := c >= 'a' && c <= 'z' || c >= '0' && c <= '9' || c == '-' || c == '.'
		if x, e := v.Append(id, nil); is != (e == api.OK) || !is && (e != api.ErrArg || x != at(0, 0)) {
			t.Errorf("Append(%q): %v, %d", id, x, e)
		}
	}
}

// TestWhichErrorIsFirst: ErrArg ahead of ErrLong, that ahead of ErrFull, all of them ahead
// of the power.
func TestWhichErrorIsFirst(t *testing.T) { // P15.2, R2, R3
	for _, tape := range []int{2, 3, 60} {
		p, v := one(t, tape)
		for range 2 {
			appendsNot(t, v, "A", ones(513), api.ErrArg)
			appendsNot(t, v, "", ones(512), api.ErrArg)
			appendsNot(t, v, "", nil, api.ErrArg)
			appendsNot(t, v, "a", ones(513), api.ErrLong)
			appendsNot(t, v, "a", ones(100000), api.ErrLong)
			if tape < 60 {
				appendsNot(t, v, "a", ones(512), api.ErrFull)
				appendsNot(t, v, "a", nil, api.ErrFull)
			}
			off(p)
		}
		if tape == 60 {
			appendsNot(t, v, "a", ones(512), api.ErrPower)
			appendsNot(t, v, "a", nil, api.ErrPower)
		}
	}
}

func TestPowerOff(t *testing.T) { // R3
	p, v := one(t, 60)
	appends(t, v, "a", ones(3), at(0, 3))
	ok(t, v.Flush())
	off(p)
	for _, v := range []*Volume{v, opens(t, p, 0)} {
		readsNot(t, v, at(0, 3), api.ErrPower)
		readsNot(t, v, at(0, 4), api.ErrCorrupt)
		readsNot(t, v, api.Place{Dev: 1, Len: 3}, api.ErrCorrupt)
		sealsNot(t, v, api.ErrPower)
		appendsNot(t, v, "b", ones(3), api.ErrPower)
		if e := v.Flush(); e != api.ErrPower {
			t.Errorf("Flush: %d", e)
		}
		v.Room()
		v.List()
		v.Root()
	}
	p.Boot(nil)
	reads(t, opens(t, p, 0), at(0, 3), "a", ones(3))
	p, v = one(t, 3)
	lay(t, p, 0, ones(64))
	lay(t, p, 0, ones(64))
	off(p)
	sealsNot(t, v, api.ErrFull)
}

// TestSmallTapes: of each size, how much goes on them, and what Room tells all along.
func TestSmallTapes(t *testing.T) { // P15.2, P15.3
	for size := 1; size <= 40; size++ {
		for cost := 2; cost <= 12; cost++ {
			b := ones(min(512, 56*(cost-2)))
			p, v := one(t, size)
			n := 0
			for ; n*cost+cost+2 <= size; n++ {
				roomIs(t, v, size-2-n*cost)
				appends(t, v, "a", b, at(n*cost, cost))
			}
			roomIs(t, v, max(0, size-2-n*cost))
			appendsNot(t, v, "a", b, api.ErrFull)
			if n > 0 {
				reads(t, v, at((n-1)*cost, cost), "a", b)
			}
			left := size - lengthOf(t, p, 0)
			if left < 2 {
				sealsNot(t, v, api.ErrFull)
				isOpen(t, v)
				continue
			}
			ok(t, v.Seal())
			isClosed(t, v, rootOfCopies(n, "a"+string(b)))
			if n := lengthOf(t, p, 0); n != size-left+2 {
				t.Fatalf("Seal wrote %d blocks", n-size+left)
			}
		}
	}
}

// rootOfCopies is the root of n leaves alike.
func rootOfCopies(n int, text string) api.Hash {
	var l []api.Hash
	for range n {
		l = append(l, tree.Leaf([]byte(text)))
	}
	return tree.Root(l)
}

// TestJustRoom: an object fits, or it does not, by one block.
func TestJustRoom(t *testing.T) { // P15.2, P15.3
	for n := range 513 {
		_, v := one(t, blocksOf(n)+2)
		roomIs(t, v, blocksOf(n))
		appends(t, v, "a", ones(n), at(0, blocksOf(n)))
		roomIs(t, v, 0)
		appendsNot(t, v, "a", nil, api.ErrFull)
		ok(t, v.Seal())
		isClosed(t, v, rootOfCopies(1, "a"+string(ones(n))))
		_, v = one(t, blocksOf(n)+1)
		roomIs(t, v, blocksOf(n)-1)
		appendsNot(t, v, "a", ones(n), api.ErrFull)
		lists(t, v)
	}
}

// TestTapesFilledByOthers: a tape has anything on it, up to its last block: what Room,
// Append and Seal make of what is left.
func TestTapesFilledByOthers(t *testing.T) { // P15.1, P15.2, P15.3, P15.6
	r := rand.New(rand.NewSource(2))
	for size := 1; size <= 20; size++ {
		for used := range size + 1 {
			p := made(t, []int{1}, []int{5, size})
			for range used {
				lay(t, p, 2, someBytes(r, 64))
			}
			v := opens(t, p, 2)
			lists(t, v)
			isOpen(t, v)
			room := max(0, size-used-2)
			roomIs(t, v, room)
			first := used
			if room < 3 {
				appendsNot(t, v, "b", ones(1), api.ErrFull)
			} else {
				x := api.Place{Dev: 2, At: used, Len: 3}
				appends(t, v, "b", ones(1), x)
				reads(t, v, x, "b", ones(1))
				first += 3
			}
			if size-first < 2 {
				sealsNot(t, v, api.ErrFull)
				continue
			}
			ok(t, v.Seal())
			n := 0
			if used == 0 && room >= 3 {
				n = 1
			}
			isClosed(t, v, rootOfCopies(n, "b\x01"))
		}
	}
}

func TestFlush(t *testing.T) { // P15.2, P15.3
	p := made(t, nil, []int{50, 50})
	v, w := opens(t, p, 0), opens(t, p, 1)
	appends(t, v, "a", ones(1), at(0, 3))
	appends(t, w, "b", ones(2), api.Place{Dev: 1, Len: 3})
	ok(t, v.Flush())
	if p.Steps() != 7 {
		t.Errorf("%d steps", p.Steps())
	}
	ok(t, v.Flush())
	p.Boot(nil)
	v, w = opens(t, p, 0), opens(t, p, 1)
	reads(t, v, at(0, 3), "a", ones(1))
	readsNot(t, w, api.Place{Dev: 1, Len: 3}, api.ErrCorrupt)
	if n := lengthOf(t, p, 1); n != 0 {
		t.Errorf("Append flushed: %d blocks are there", n)
	}
	lists(t, w)
	roomIs(t, w, 48)
}

// wrongPlaces are no objects' on the tape 0 of a plant, whose objects stand at 0 to 3 and
// 4 to 7, and whose end is at 8 and 9.
func wrongPlaces() []api.Place {
	const big, small = math.MaxInt, math.MinInt
	wrong := []api.Place{
		{}, at(0, 1), at(0, 2), at(0, 3), at(0, 5), at(0, 8), at(0, 10), at(0, 12), at(1, 3), at(1, 4), at(2, 2), at(3, 4), at(3, 5), at(4, 3), at(4, 5), at(4, 6), at(5, 3),
		at(8, 2), at(8, 1), at(9, 1), at(7, 2), at(7, 3), at(6, 4), at(8, 0), at(10, 0), at(10, 2), at(9, 2), at(8, 4), at(11, 4), at(99, 4), at(99, 0), at(4096, 4), at(1<<16, 4), at(1<<16+4, 4), at(1<<32, 4), at(1<<32+4, 4),
		at(-1, 4), at(-1, 0), at(-4, 4), at(-4, 8), at(small, 4), at(small, 0), at(small, small), at(small, big), at(small+4, 4), at(-1<<16, 4), at(-1<<32, 4),
		at(big, 4), at(big, 1), at(big, 0), at(big, big), at(big-3, 4), at(big-4, 4), at(big, small),
		at(0, 0), at(0, -1), at(0, -4), at(4, -4), at(4, -1), at(0, small), at(0, big), at(4, big), at(4, big-4), at(4, big-3), at(4, small), at(0, 1<<32+4), at(0, 1<<16+4), at(0, 1<<8+4), at(10, big), at(10, small),
	}
	for _, dev := range []int{small, -1, 1, 2, 3, 12, 256, 1 << 32, big} {
		wrong = append(wrong, api.Place{Dev: dev, At: 0, Len: 4}, api.Place{Dev: dev, At: 4, Len: 4}, api.Place{Dev: dev, At: 0, Len: 0})
	}
	return wrong
}

func TestWrongPlaces(t *testing.T) { // P15.4, R1
	p := made(t, nil, []int{10, 10})
	v := opens(t, p, 0)
	a, b := ones(64), bytes.Repeat([]byte("b"), 100)
	appends(t, v, "a", a, at(0, 4))
	appends(t, v, "b", b, at(4, 4))
	for range 2 {
		for _, x := range wrongPlaces() {
			readsNot(t, v, x, api.ErrCorrupt)
			x.Bad = true
			readsNot(t, v, x, api.ErrCorrupt)
		}
		for _, bad := range []bool{true, false} {
			reads(t, v, api.Place{At: 4, Len: 4, Bad: bad}, "b", b)
			reads(t, v, api.Place{At: 0, Len: 4, Bad: bad}, "a", a)
		}
		v.Seal()
	}
}

// TestEveryPlace: of all places that a tape might have, just those that were told are
// read.
func TestEveryPlace(t *testing.T) { // P15.4, P15.8
	r := rand.New(rand.NewSource(3))
	for _, same := range []bool{true, false} {
		p, v := one(t, 60)
		is := map[api.Place][]byte{}
		for _, n := range []int{0, 0, 56, 57, 1, 0, 200, 56} {
			b := ones(n)
			if !same {
				b = someBytes(r, n)
			}
			x, e := v.Append("a", b)
			ok(t, e)
			is[x] = b
		}
		ok(t, v.Seal())
		v = opens(t, p, 0)
		for first := -2; first < 65; first++ {
			for n := -2; n < 65; n++ {
				if b, told := is[at(first, n)]; told {
					reads(t, v, at(first, n), "a", b)
				} else {
					readsNot(t, v, at(first, n), api.ErrCorrupt)
				}
			}
		}
	}
}

func TestList(t *testing.T) { // P15.5
	p, v := one(t, 100)
	lists(t, v)
	var want []api.Place
	for i, n := range []int{0, 1, 56, 57, 512, 0, 300} {
		x, e := v.Append("a", ones(n))
		ok(t, e)
		want = append(want, x)
		lists(t, v, want...)
		if i%2 == 0 {
			v = opens(t, p, 0)
			lists(t, v, want...)
		}
	}
	ok(t, v.Seal())
	lists(t, v, want...)
	lists(t, opens(t, p, 0), want...)
}

// TestListEndsWhereNoneBegins: a block that is none of an object's, at the front of the
// tape, or between objects; those behind it are read by their places.
func TestListEndsWhereNoneBegins(t *testing.T) { // P15.2, P15.4, P15.5, P15.6
	r := rand.New(rand.NewSource(4))
	for ahead := range 4 {
		p, v := one(t, 60)
		var want []api.Place
		for i := range ahead {
			appends(t, v, "a", ones(i), at(lengthOf(t, p, 0), blocksOf(i)))
			want = v.List()
		}
		lay(t, p, 0, someBytes(r, 64))
		x := at(lengthOf(t, p, 0), 4)
		appends(t, v, "b", ones(57), x)
		lists(t, v, want...)
		if len(want) != ahead {
			t.Fatalf("%d objects are told of %d", len(want), ahead)
		}
		reads(t, v, x, "b", ones(57))
		ok(t, v.Seal())
		var l []api.Hash
		for i := range ahead {
			l = append(l, tree.Leaf(append([]byte("a"), ones(i)...)))
		}
		for _, v := range []*Volume{v, opens(t, p, 0)} {
			isClosed(t, v, tree.Root(l))
			lists(t, v, want...)
			reads(t, v, x, "b", ones(57))
		}
	}
}

func TestRoots(t *testing.T) { // P15.6
	r := rand.New(rand.NewSource(5))
	for n := range 20 {
		p, v := one(t, 400)
		var l []api.Hash
		for range n {
			id, b := someName(r), someBytes(r, r.Intn(513))
			_, e := v.Append(id, b)
			ok(t, e)
			l = append(l, tree.Leaf(append([]byte(id), b...)))
		}
		isOpen(t, v)
		isOpen(t, opens(t, p, 0))
		steps := p.Steps()
		ok(t, v.Seal())
		if p.Steps() != steps+3 {
			t.Errorf("Seal did %d steps", p.Steps()-steps)
		}
		isClosed(t, v, tree.Root(l))
		p.Boot(nil) // Seal flushed all
		v = opens(t, p, 0)
		isClosed(t, v, tree.Root(l))
		if len(v.List()) != n {
			t.Errorf("%d objects of %d", len(v.List()), n)
		}
	}
}

// TestIdsAndBytesRunOn: a root is of ids and bytes, one behind the other, with nothing
// between; but each object is read with its own id.
func TestIdsAndBytesRunOn(t *testing.T) { // P15.4, P15.6
	var roots []api.Hash
	for cut := 1; cut < 6; cut++ {
		p, v := one(t, 20)
		appends(t, v, "abcdef"[:cut], []byte("abcdef")[cut:], at(0, 3))
		reads(t, v, at(0, 3), "abcdef"[:cut], []byte("abcdef")[cut:])
		ok(t, v.Seal())
		root, _ := opens(t, p, 0).Root()
		roots = append(roots, root)
	}
	for _, root := range roots {
		if root != tree.Leaf([]byte("abcdef")) {
			t.Errorf("the root %x", root)
		}
	}
}

// TestSealOfWhatIsLeft: with two blocks left, with one, with none.
func TestSealOfWhatIsLeft(t *testing.T) { // P15.6
	for left := range 5 {
		p, v := one(t, 10)
		appends(t, v, "a", ones(60), at(0, 4))
		for range 6 - left {
			lay(t, p, 0, ones(64))
		}
		if left < 2 {
			sealsNot(t, v, api.ErrFull)
			sealsNot(t, opens(t, p, 0), api.ErrFull)
			isOpen(t, v)
			roomIs(t, v, 0)
			continue
		}
		ok(t, v.Seal())
		isClosed(t, v, rootOfCopies(1, "a"+string(ones(60))))
		isClosed(t, opens(t, p, 0), rootOfCopies(1, "a"+string(ones(60))))
	}
}

// TestTwoOnOneTape: volumes that were opened on one tape are one and the same.
func TestTwoOnOneTape(t *testing.T) { // P15.2, P15.5, P15.6, P15.8, R6
	p := made(t, nil, []int{40})
	v, w := opens(t, p, 0), opens(t, p, 0)
	appends(t, v, "a", ones(1), at(0, 3))
	appends(t, w, "b", ones(2), at(3, 3))
	appends(t, v, "c", ones(3), at(6, 3))
	reads(t, w, at(6, 3), "c", ones(3))
	reads(t, v, at(3, 3), "b", ones(2))
	lists(t, w, at(0, 3), at(3, 3), at(6, 3))
	roomIs(t, v, 29)
	roomIs(t, w, 29)
	ok(t, w.Seal())
	root, _ := w.Root()
	isClosed(t, v, root)
	isClosed(t, w, root)
}

// TestManyDevices: tapes of one plant in turns, the last one that there may be among
// them; each goes its own way.
func TestManyDevices(t *testing.T) { // P15.2, P15.4, P15.8
	p := made(t, []int{1, 1}, slices.Repeat([]int{64}, 10))
	r := rand.New(rand.NewSource(6))
	volumes := make([]*Volume, 10)
	for i := range volumes {
		volumes[i] = opens(t, p, i+2)
	}
	type told struct {
		x  api.Place
		id string
		b  []byte
	}
	var all []told
	for round := range 4 {
		for i, v := range volumes {
			id, b := someName(r), someBytes(r, 60)
			x := api.Place{Dev: i + 2, At: 4 * round, Len: 4}
			appends(t, v, id, b, x)
			all = append(all, told{x, id, b})
		}
	}
	ok(t, volumes[3].Seal())
	r.Shuffle(len(all), func(i, j int) { all[i], all[j] = all[j], all[i] })
	for _, o := range all {
		for i, v := range volumes {
			if o.x.Dev == i+2 {
				reads(t, v, o.x, o.id, o.b)
			} else {
				readsNot(t, v, o.x, api.ErrCorrupt)
			}
		}
	}
	isOpen(t, volumes[2])
	isOpen(t, volumes[4])
	roomIs(t, volumes[4], 46)
	roomIs(t, volumes[3], 0)
}

// TestGreatTape: numbers of blocks that take two bytes.
func TestGreatTape(t *testing.T) { // P15.2 to P15.8
	p, v := one(t, 4096)
	r := rand.New(rand.NewSource(7))
	var l []api.Hash
	var places []api.Place
	for n := 0; v.Room() >= Blocks(n); n = (n + 31) % 513 {
		b := someBytes(r, n)
		x, e := v.Append("great", b)
		ok(t, e)
		places = append(places, x)
		l = append(l, tree.Leaf(append([]byte("great"), b...)))
	}
	for v.Room() >= 2 {
		x, e := v.Append("small", nil)
		ok(t, e)
		places = append(places, x)
		l = append(l, tree.Leaf([]byte("small")))
	}
	lists(t, v, places...)
	ok(t, v.Seal())
	if lengthOf(t, p, 0) < 4095 {
		t.Fatalf("%d blocks", lengthOf(t, p, 0))
	}
	v = opens(t, p, 0)
	isClosed(t, v, tree.Root(l))
	lists(t, v, places...)
}

// TestMemory: what a caller does to its bytes behind a call is not seen.
func TestMemory(t *testing.T) { // R6
	p := made(t, nil, []int{60})
	v := opens(t, p, 0)
	r := rand.New(rand.NewSource(8))
	for _, n := range []int{0, 1, 56, 57, 112, 512} {
		room := someBytes(r, n+100)
		b := room[10 : 10+n]
		before := bytes.Clone(room)
		x, e := v.Append("a", b)
		ok(t, e)
		if !bytes.Equal(room, before) {
			t.Fatal("Append changed bytes of its caller")
		}
		want := bytes.Clone(b)
		spoil(room)
		for range 3 {
			reads(t, v, x, "a", want)
			_, got, _ := v.Read(x)
			spoil(got)
		}
		reads(t, opens(t, p, 0), x, "a", want)
		l := v.List()
		want2 := slices.Clone(l)
		for i := range l {
			l[i] = api.Place{}
		}
		lists(t, v, want2...)
	}
	ok(t, v.Seal())
	root, _ := v.Root()
	isClosed(t, opens(t, p, 0), root)
}

// TestReadsAndListsWriteNothing: what only asks does no step.
func TestReadsAndListsWriteNothing(t *testing.T) { // P15.3 to P15.6
	p, v := one(t, 30)
	appends(t, v, "a", ones(70), at(0, 4))
	for range 2 {
		steps := p.Steps()
		v.Read(at(0, 4))
		v.Read(at(0, 3))
		v.List()
		v.Room()
		v.Root()
		if p.Steps() != steps {
			t.Fatal("a step was done")
		}
		v.Seal()
	}
}
