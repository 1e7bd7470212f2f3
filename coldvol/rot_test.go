package coldvol

import (
	"bytes"
	"math/rand"
	"testing"

	"muniment/api"
	"muniment/plant"
	"muniment/tree"
)

func rots(t *testing.T, p *plant.Plant, place, at, by int) {
	t.Helper()
	if !p.Rot(0, place, at, by) {
		t.Fatal("it did not rot")
	}
}

func raw(t *testing.T, p *plant.Plant, dev, place int) []byte {
	t.Helper()
	b, e := p.Read(dev, place)
	ok(t, e)
	return b
}

// TestOneByteTurned: each byte of an object's blocks; it is not read as another one, and
// those next to it are as they were.
func TestOneByteTurned(t *testing.T) { // P15.4, P15.5, R4
	r := rand.New(rand.NewSource(11))
	for _, n := range []int{0, 1, 55, 56, 57, 300, 512} {
		p, v := one(t, 40)
		ahead, behind, b := someBytes(r, 64), someBytes(r, 64), someBytes(r, n)
		appends(t, v, "ahead", ahead, at(0, 4))
		x, e := v.Append("mine", b)
		ok(t, e)
		y := at(x.At+x.Len, 4)
		appends(t, v, "behind", behind, y)
		ok(t, v.Flush())
		for i := range 64 * x.Len {
			for _, by := range []int{1, 2, 4, 8, 16, 32, 64, 128, 255, 1 + r.Intn(255)} {
				rots(t, p, x.At+i/64, i%64, by)
				readsNot(t, v, x, api.ErrCorrupt)
				lists(t, v, at(0, 4))
				rots(t, p, x.At+i/64, i%64, by)
			}
			reads(t, v, x, "mine", b)
		}
		rots(t, p, x.At, 63, 1)
		reads(t, v, at(0, 4), "ahead", ahead)
		reads(t, v, y, "behind", behind)
	}
}

// TestOneByteOfTheEnd: each byte of the end; no other root is told, and sealed stays
// sealed, also where the volume is opened anew.
func TestOneByteOfTheEnd(t *testing.T) { // P15.6, R4
	r := rand.New(rand.NewSource(12))
	for n := range 3 {
		p, v := one(t, 20)
		for range n {
			_, e := v.Append("a", someBytes(r, 70))
			ok(t, e)
		}
		ok(t, v.Seal())
		root, _ := v.Root()
		first := lengthOf(t, p, 0) - 2
		for i := range 128 {
			for _, by := range []int{1, 2, 4, 8, 16, 32, 64, 128, 255, 1 + r.Intn(255)} {
				rots(t, p, first+i/64, i%64, by)
				isClosed(t, v, root)
				isClosed(t, opens(t, p, 0), root)
				rots(t, p, first+i/64, i%64, by)
			}
		}
	}
}

// TestNothingOfTheEndGoesUnread: of an end of which one block is gone, a byte of the other
// one that is turned is found.
func TestNothingOfTheEndGoesUnread(t *testing.T) { // P15.6, R4
	for gone := range 2 {
		p, v := one(t, 20)
		appends(t, v, "a", ones(70), at(0, 4))
		ok(t, v.Seal())
		rots(t, p, 4+gone, 20, 1)
		for i := range 64 {
			rots(t, p, 5-gone, i, 1)
			isOpen(t, opens(t, p, 0))
			rots(t, p, 5-gone, i, 1)
		}
	}
}

// TestRotOfTheWholeEnd: a volume that was seen sealed stays so, whatever becomes of its
// tape.
func TestRotOfTheWholeEnd(t *testing.T) { // P15.6
	p, v := one(t, 20)
	w := opens(t, p, 0)
	appends(t, v, "a", ones(70), at(0, 4))
	ok(t, v.Seal())
	root, _ := w.Root()
	for i := range 128 {
		rots(t, p, 4+i/64, i%64, 255)
	}
	isClosed(t, v, root)
	isClosed(t, w, root)
	isOpen(t, opens(t, p, 0)) // nothing is left that could tell it
}

// TestRotOfObjectsAndTheRoot: a root is of what was there when the volume was sealed.
func TestRotOfObjectsAndTheRoot(t *testing.T) { // P15.5, P15.6
	p, v := one(t, 40)
	for _, id := range []string{"a", "b", "c"} {
		_, e := v.Append(id, ones(70))
		ok(t, e)
	}
	ok(t, v.Flush())
	q := p.Clone()
	ok(t, v.Seal())
	root, _ := v.Root()
	rots(t, p, 5, 0, 1)
	isClosed(t, opens(t, p, 0), root)
	lists(t, opens(t, p, 0), at(0, 4))
	rots(t, q, 5, 0, 1)
	v = opens(t, q, 0)
	ok(t, v.Seal())
	isClosed(t, v, tree.Leaf(append([]byte("a"), ones(70)...)))
	reads(t, v, at(8, 4), "c", ones(70))
}

// TestManyTurned: what rotted wholly is ErrCorrupt, or looks like something; nothing
// panics, and the others are as they were.
func TestManyTurned(t *testing.T) { // P15.4, R4
	r := rand.New(rand.NewSource(13))
	for range 300 {
		p, v := one(t, 60)
		a, b := someBytes(r, r.Intn(300)), someBytes(r, r.Intn(300))
		x, e := v.Append("a", a)
		ok(t, e)
		y, e := v.Append("b", b)
		ok(t, e)
		ok(t, v.Flush())
		for range 1 + r.Intn(40) {
			rots(t, p, y.At+r.Intn(y.Len), r.Intn(64), r.Intn(256))
		}
		askAll(t, v)
		reads(t, v, x, "a", a)
		appends(t, v, "c", b, at(y.At+y.Len, y.Len))
		reads(t, v, at(y.At+y.Len, y.Len), "c", b)
	}
}

// askAll asks all that may be asked, of all places.
func askAll(t *testing.T, v *Volume) {
	t.Helper()
	n := v.length()
	for first := range n {
		for count := range min(n-first, 14) + 1 {
			id, b, e := v.Read(at(first, count))
			if e != api.OK && e != api.ErrCorrupt || e != api.OK && (id != "" || len(b) > 0) || e == api.OK && Blocks(len(b)) != count {
				t.Fatalf("Read(%v): %q, %x, %d", at(first, count), id, b, e)
			}
		}
	}
	next := 0
	for _, x := range v.List() {
		if _, _, e := v.Read(x); e != api.OK || x.At != next || x.Bad {
			t.Fatalf("List tells %v", x)
		}
		next += x.Len
	}
	if root, sealed := v.Root(); !sealed && root != (api.Hash{}) || sealed && v.Room() != 0 {
		t.Fatalf("Root: %x, %v", root, sealed)
	}
}

// TestAnyBlocks: whatever a tape has, nothing panics, and it goes on behind that.
func TestAnyBlocks(t *testing.T) { // P15.1, R1, R4
	r := rand.New(rand.NewSource(14))
	for range 400 {
		p, v := one(t, 60)
		for range r.Intn(20) {
			lay(t, p, 0, anyBlock(r, lengthOf(t, p, 0)))
		}
		askAll(t, v)
		v = opens(t, p, 0)
		if _, sealed := v.Root(); sealed {
			continue
		}
		x := at(lengthOf(t, p, 0), 4)
		appends(t, v, "new", ones(60), x)
		reads(t, v, x, "new", ones(60))
		ok(t, v.Seal())
		if _, sealed := opens(t, p, 0).Root(); !sealed {
			t.Fatal("it was sealed")
		}
		askAll(t, v)
	}
}

// anyBlock is one of noise, or one that some object, or some end, might have there.
func anyBlock(r *rand.Rand, number int) []byte {
	at := max(0, number-r.Intn(4))
	var k block
	switch r.Intn(4) {
	case 0:
		return someBytes(r, 64)
	case 1:
		k = endOf(0, at, api.Hash(someBytes(r, 32)))[r.Intn(2)]
	default:
		row := object{Place: api.Place{At: at}, id: someName(r), bytes: someBytes(r, r.Intn(513))}.blocks()
		k = row[min(len(row)-1, number-at)]
	}
	return append(k.piece[:], k.tag[:]...)
}

// TestMoved: blocks of an object, or of an end, that come to stand elsewhere, on this tape
// or on another one, are no object, and no end.
func TestMoved(t *testing.T) { // P15.4, P15.6
	for _, n := range []int{0, 1, 57, 512} {
		p := made(t, nil, []int{60})
		v := opens(t, p, 0)
		appends(t, v, "a", ones(70), at(0, 4))
		x, e := v.Append("b", ones(n))
		ok(t, e)
		ok(t, v.Seal())
		for dev := range 2 {
			for _, first := range []int{0, 1, 2, 3, 4, 5, 6, 7, 8, 12, 19, 256, 257, 260, 516, 1024, 1028, 2052} {
				q := made(t, nil, []int{4096, 4096})
				for range first {
					lay(t, q, dev, make([]byte, 64))
				}
				for i := x.At; i < x.At+x.Len+2; i++ {
					lay(t, q, dev, raw(t, p, 0, i))
				}
				w := opens(t, q, dev)
				y := api.Place{Dev: dev, At: first, Len: x.Len}
				if dev == 0 && first == x.At {
					reads(t, w, y, "b", ones(n))
					continue
				}
				readsNot(t, w, y, api.ErrCorrupt)
				isOpen(t, w)
			}
		}
	}
}

// TestBytesThatLookLikeBlocks: an object that has another object's blocks, or an end's,
// among its bytes, at each offset: it is that one object, and nothing else.
func TestBytesThatLookLikeBlocks(t *testing.T) { // P15.4, P15.5, P15.6
	inner := object{Place: at(1, 3), id: "in", bytes: ones(5)}.blocks()
	rows := [][]byte{nil, nil, nil}
	for _, k := range inner {
		rows[0] = append(append(rows[0], k.piece[:]...), k.tag[:]...)
		rows[1] = append(rows[1], k.piece[:]...)
	}
	for _, k := range endOf(0, 10, api.Hash{1}) {
		rows[2] = append(rows[2], k.piece[:]...)
	}
	for _, row := range rows {
		for offset := range 512 - len(row) + 1 {
			p, v := one(t, 20)
			b := make([]byte, 512)
			copy(b[offset:], row)
			appends(t, v, "a", b, at(0, 12))
			for first := 1; first < 12; first++ {
				for n := 1; first+n <= 12; n++ {
					readsNot(t, v, at(first, n), api.ErrCorrupt)
				}
			}
			isOpen(t, v)
			reads(t, v, at(0, 12), "a", b)
			lists(t, opens(t, p, 0), at(0, 12))
		}
	}
}

// TestCutOffBytesThatLookLikeBlocks: what a crash leaves of such an object is none, too;
// also where its last block that is left looks like a beginning, or like an end.
func TestCutOffBytesThatLookLikeBlocks(t *testing.T) { // P15.7
	var heads, ends []byte
	for first := 1; first <= 8; first++ {
		head := object{Place: at(first, 2), id: "in"}.blocks()[0]
		heads = append(heads, head.piece[:]...)
		end := endOf(0, first, api.Hash{1})[0]
		ends = append(ends, end.piece[:]...)
	}
	for _, b := range [][]byte{heads, ends} {
		for _, keep := range keeps(10) {
			p, v := one(t, 40)
			appends(t, v, "a", b, at(0, 10))
			p.Boot(keep)
			v = opens(t, p, 0)
			isOpen(t, v)
			n := lengthOf(t, p, 0)
			for first := range n {
				for count := 1; first+count <= n; count++ {
					if id, got, e := v.Read(at(first, count)); e == api.OK && (id != "a" || !bytes.Equal(got, b) || keep[9] != 1) {
						t.Fatalf("Read(%v): %q, %x", at(first, count), id, got)
					}
				}
			}
			appends(t, v, "b", b[:60], at(n, 4))
			reads(t, v, at(n, 4), "b", b[:60])
		}
	}
}

// TestRowsThatNobodyWrites: rows that Append would never write: of an id that is no name,
// or with bytes behind the last one.
func TestRowsThatNobodyWrites(t *testing.T) { // P15.4, P15.5
	good := object{Place: at(0, 4), id: "abc", bytes: ones(70)}
	for i, turn := range []func(row []block){
		func(row []block) {},
		func(row []block) { row[2].piece[14] = 1 }, // behind the bytes
		func(row []block) { row[0].piece[55] = 1 }, // behind the label
		func(row []block) { row[3].piece[32] = 1 }, // behind the hash
		func(row []block) { row[1], row[2] = row[2], row[1] },
		func(row []block) { row[3].tag[7] = 1 },
		func(row []block) { row[0] = object{Place: at(0, 4), id: "abd", bytes: ones(70)}.blocks()[0] },
		func(row []block) { row[0] = object{Place: at(0, 4), id: "abc", bytes: ones(71)}.blocks()[0] },
		func(row []block) { row[1] = object{Place: at(0, 4), id: "abc", bytes: make([]byte, 70)}.blocks()[1] },
		func(row []block) { row[3] = object{Place: at(0, 4), id: "abc", bytes: make([]byte, 70)}.blocks()[3] },
		func(row []block) { row[1].tag = row[2].tag },
		func(row []block) { copy(row, object{Place: at(0, 4), id: "A", bytes: ones(70)}.blocks()) },
		func(row []block) { copy(row, object{Place: at(0, 4), bytes: ones(70)}.blocks()) },
		func(row []block) {
			copy(row, object{Place: at(0, 4), id: "abcdefghijklmnopq", bytes: ones(70)}.blocks())
		},
	} {
		p, v := one(t, 20)
		row := good.blocks()
		turn(row)
		ok(t, v.write(row))
		ok(t, p.Flush(0))
		if i == 0 {
			reads(t, v, at(0, 4), "abc", ones(70))
			lists(t, v, at(0, 4))
			continue
		}
		readsNot(t, v, at(0, 4), api.ErrCorrupt)
		lists(t, v)
	}
	for n := 513; n < 600; n++ {
		_, v := one(t, 40)
		row := object{id: "abc", bytes: ones(n)}.blocks()
		ok(t, v.write(row))
		readsNot(t, v, at(0, len(row)), api.ErrCorrupt)
		lists(t, v)
	}
}
