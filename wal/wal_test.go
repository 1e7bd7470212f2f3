package wal

import (
	"bytes"
	"math"
	"math/rand"
	"slices"
	"testing"

	"muniment/api"
	"muniment/plant"
)

func made(t *testing.T, disks, tapes []int) *plant.Plant {
	t.Helper()
	p, e := plant.New(api.Shape{Disks: disks, Tapes: tapes})
	ok(t, e)
	return p
}

func ok(t *testing.T, e api.Errno) {
	t.Helper()
	if e != api.OK {
		t.Fatalf("answers %d", e)
	}
}

// formatted is a plant with one disk, and a journal on it that was opened.
func formatted(t *testing.T, n int) (*plant.Plant, *Wal) {
	t.Helper()
	p := made(t, []int{n}, nil)
	ok(t, Format(p, 0))
	return p, opens(t, p)
}

func sameTx(a, b [][]byte) bool { return slices.EqualFunc(a, b, bytes.Equal) }

func sameTxs(a, b [][][]byte) bool { return slices.EqualFunc(a, b, sameTx) }

// opens opens the journal of the disk 0, which must tell these transactions.
func opens(t *testing.T, p *plant.Plant, want ...[][]byte) *Wal {
	t.Helper()
	w, txs, e := Open(p, 0)
	if e != api.OK || w == nil || !sameTxs(txs, want) {
		t.Fatalf("Open: %d, %d transactions: %v; want %d: %v", e, len(txs), txs, len(want), want)
	}
	return w
}

// opensNot is of a disk that must not open, and that stays as it is.
func opensNot(t *testing.T, p *plant.Plant, dev int, want api.Errno) {
	t.Helper()
	steps := p.Steps()
	if w, txs, e := Open(p, dev); e != want || w != nil || len(txs) != 0 {
		t.Fatalf("Open(%d): %v, %v, %d; want %d", dev, w, txs, e, want)
	}
	if p.Steps() != steps {
		t.Fatalf("Open(%d) changed something", dev)
	}
}

// content is all that a disk has.
func content(t *testing.T, p *plant.Plant, dev int) []byte {
	t.Helper()
	n, e := p.Len(dev)
	ok(t, e)
	var all []byte
	for i := range n {
		b, e := p.Read(dev, i)
		ok(t, e)
		all = append(all, b...)
	}
	return all
}

func someBytes(r *rand.Rand, n int) []byte {
	b := make([]byte, n)
	r.Read(b)
	return b
}

// someTx has so many records, and so many bytes in all of them together.
func someTx(r *rand.Rand, records, n int) [][]byte {
	tx := make([][]byte, records)
	for i := range tx {
		k := n
		if i < records-1 {
			k = r.Intn(n + 1)
		}
		tx[i] = someBytes(r, k)
		n -= k
	}
	return tx
}

// cost is as the chapter's head has it.
func cost(tx [][]byte) int {
	n := 0
	for _, record := range tx {
		n += len(record) + 2
	}
	return 1 + n/32
}

func TestExamples(t *testing.T) { // P8.1 to P8.6
	p := made(t, []int{64}, nil)
	opensNot(t, p, 0, api.ErrCorrupt)
	ok(t, Format(p, 0))
	w := opens(t, p)
	ab := [][]byte{[]byte("a"), []byte("b")}
	ok(t, w.Append(ab))
	ok(t, w.Append(nil))
	w = opens(t, p, ab, nil)
	for _, tx := range [][][]byte{make([][]byte, 17), {make([]byte, 513), make([]byte, 513)}} {
		if e := w.Append(tx); e != api.ErrLong {
			t.Errorf("Append of what is long: %d", e)
		}
	}
	p.Fuse(0)
	if e := w.Append([][]byte{[]byte("c")}); e != api.ErrPower {
		t.Errorf("Append without power: %d", e)
	}
	p.Boot(nil)
	w = opens(t, p, ab, nil)
	ok(t, w.Truncate())
	opens(t, p)
}

func TestDisksThatHoldNone(t *testing.T) { // P8.1, P8.2
	p := made(t, []int{7, 8, 1, 64}, []int{64, 8})
	for _, dev := range []int{math.MinInt, -1, 0, 2, 4, 5, 6, 12, math.MaxInt} {
		for _, on := range []bool{true, false} {
			q := p.Clone()
			if !on {
				q.Fuse(0)
				q.Flush(1)
			}
			if e := Format(q, dev); e != api.ErrArg {
				t.Errorf("Format(%d): %d", dev, e)
			}
			opensNot(t, q, dev, api.ErrArg)
			if q.Steps() != 0 {
				t.Errorf("Format(%d) did something", dev)
			}
		}
	}
	for _, dev := range []int{1, 3} {
		opensNot(t, p, dev, api.ErrCorrupt)
		ok(t, Format(p, dev))
		if w, txs, e := Open(p, dev); e != api.OK || w == nil || len(txs) != 0 {
			t.Errorf("Open(%d): %v, %d", dev, txs, e)
		}
	}
	for _, dev := range []int{0, 2} {
		if !bytes.Equal(content(t, p, dev), make([]byte, len(content(t, p, dev)))) {
			t.Errorf("disk %d was written to", dev)
		}
	}
}

func TestDisksWithoutAJournal(t *testing.T) { // P8.2, R1
	r := rand.New(rand.NewSource(1))
	for range 200 {
		p := made(t, []int{9}, nil)
		for i := range 9 {
			ok(t, p.Write(0, i, someBytes(r, 64)))
		}
		opensNot(t, p, 0, api.ErrCorrupt)
	}
	for _, c := range []byte{0, 1, 0x7f, 0xff} {
		p := made(t, []int{9}, nil)
		for i := range 9 {
			ok(t, p.Write(0, i, bytes.Repeat([]byte{c}, 64)))
		}
		opensNot(t, p, 0, api.ErrCorrupt)
	}
}

// TestAJournalsSectorsMoved: a sector of the log is no head, and a log without its
// head is no journal.
func TestAJournalsSectorsMoved(t *testing.T) { // P8.2
	p, w := formatted(t, 12)
	ok(t, w.Append(someTx(rand.New(rand.NewSource(1)), 3, 100)))
	for i := 1; i < 12; i++ {
		q := p.Clone()
		b, e := q.Read(0, i)
		ok(t, e)
		ok(t, q.Write(0, 0, b))
		opensNot(t, q, 0, api.ErrCorrupt)
	}
}

// fillings are what a disk of so many sectors may have had ahead of Format.
func fillings(t *testing.T, n int) map[string]*plant.Plant {
	r := rand.New(rand.NewSource(3))
	junk, waits, full, late := made(t, []int{n}, nil), made(t, []int{n}, nil), made(t, []int{n}, nil), made(t, []int{n}, nil)
	for i := range n {
		ok(t, junk.Write(0, i, someBytes(r, 64)))
	}
	ok(t, junk.Flush(0))
	for i := range n {
		ok(t, waits.Write(0, i, someBytes(r, 64)))
	}
	ok(t, Format(full, 0))
	w := opens(t, full)
	for w.Fits(nil) {
		ok(t, w.Append(nil))
	}
	// All sectors of the log are those of rows of the sessions that a new journal
	// gives, too.
	ok(t, Format(late, 0))
	for session := range 20 {
		for i := range n - 1 {
			row := rowOf(uint64(session), nil)
			if (i+session)%3 == 0 {
				ok(t, late.Write(0, 1+i, row[0]))
			}
		}
	}
	ok(t, late.Flush(0))
	return map[string]*plant.Plant{"new": made(t, []int{n}, nil), "junk": junk, "junk that waits": waits, "a full journal": full, "rows of sessions to come": late}
}

func TestFormatWhateverTheDiskHad(t *testing.T) { // P8.1
	for name, p := range fillings(t, 10) {
		ok(t, Format(p, 0))
		p.Boot(nil)
		w := opens(t, p)
		var txs [][][]byte
		for w.Fits(nil) {
			w = opens(t, p, txs...)
			ok(t, w.Append(nil))
			txs = append(txs, nil)
			w = opens(t, p, txs...)
		}
		if len(txs) < 6 {
			t.Errorf("%s: room for %d", name, len(txs))
		}
		ok(t, Format(p, 0))
		opens(t, p)
	}
}

func TestEdgesOfWhatIsLong(t *testing.T) { // P8.3, P8.4
	r := rand.New(rand.NewSource(4))
	for _, c := range []struct {
		records, bytes int
		long           bool
	}{
		{0, 0, false}, {1, 0, false}, {16, 0, false}, {17, 0, true}, {1, 1024, false}, {1, 1025, true},
		{2, 1024, false}, {2, 1025, true}, {16, 1024, false}, {16, 1025, true}, {17, 1024, true}, {17, 5, true},
		{1, 1 << 20, true}, {1 << 16, 0, true}, {1000, 100000, true},
	} {
		p, w := formatted(t, 64)
		tx := someTx(r, c.records, c.bytes)
		steps := p.Steps()
		if w.Fits(tx) == c.long {
			t.Errorf("Fits of %d records, %d bytes: %v", c.records, c.bytes, !c.long)
		}
		if p.Steps() != steps {
			t.Errorf("Fits did a step")
		}
		if !c.long {
			ok(t, w.Append(tx))
			opens(t, p, tx)
			continue
		}
		if e := w.Append(tx); e != api.ErrLong || p.Steps() != steps {
			t.Errorf("Append of %d records, %d bytes: %d", c.records, c.bytes, e)
		}
		opens(t, p)
	}
}

func TestLongIsToldAheadOfFull(t *testing.T) { // P8.3, R2
	p, w := formatted(t, 8)
	for w.Fits(nil) {
		ok(t, w.Append(nil))
	}
	if e := w.Append(make([][]byte, 17)); e != api.ErrLong {
		t.Errorf("Append of what is long: %d", e)
	}
	if e := w.Append(nil); e != api.ErrFull {
		t.Errorf("Append of what has no room: %d", e)
	}
	p.Fuse(0)
	if e := w.Truncate(); e != api.ErrPower {
		t.Errorf("Truncate without power: %d", e)
	}
	if e := w.Append(make([][]byte, 17)); e != api.ErrLong {
		t.Errorf("Append of what is long, without power: %d", e)
	}
	if e := w.Append(nil); e != api.ErrFull {
		t.Errorf("Append of what has no room, without power: %d", e)
	}
}

func TestEachSizeComesBack(t *testing.T) { // P8.2, P8.3, P8.4
	r := rand.New(rand.NewSource(5))
	p := made(t, []int{8 + 34, 8}, nil)
	ok(t, Format(p, 0))
	w := opens(t, p)
	for n := range 1025 {
		for _, records := range []int{1, 1 + r.Intn(16)} {
			tx := someTx(r, records, n)
			if !w.Fits(tx) {
				t.Fatalf("%d bytes don't fit", n)
			}
			ok(t, w.Append(tx))
			w = opens(t, p, tx)
			ok(t, w.Truncate())
		}
	}
}

// TestRoomForEachCost: a disk has just as many sectors as the promise asks for.
func TestRoomForEachCost(t *testing.T) { // P8.4
	r := rand.New(rand.NewSource(6))
	for n := range 1025 {
		tx := someTx(r, 1+n%16, n)
		if cost(tx) < 4 {
			continue // no disk is that small
		}
		p, w := formatted(t, cost(tx)+4)
		if !w.Fits(tx) {
			t.Fatalf("%d bytes in %d records don't fit", n, len(tx))
		}
		ok(t, w.Append(tx))
		opens(t, p, tx)
	}
}

// someFor is a transaction of this cost, 1 to 33, with all the bytes that it allows.
func someFor(r *rand.Rand, k int) [][]byte {
	n := 32*k - 1 // the bytes, and 2 for each record
	for {
		records := r.Intn(17)
		if b := n - 2*records; records > 0 && b >= 0 && b <= 1024 {
			return someTx(r, records, b)
		}
	}
}

func TestRoomForAllCosts(t *testing.T) { // P8.4
	r := rand.New(rand.NewSource(7))
	for range 300 {
		n := 8 + r.Intn(60)
		p, w := formatted(t, n)
		var txs [][][]byte
		for left := n - 4; left > 0; {
			k := 1 + r.Intn(min(left, []int{1, 2, 33}[r.Intn(3)]))
			tx := someFor(r, k)
			if cost(tx) != k {
				t.Fatalf("a cost of %d, want %d", cost(tx), k)
			}
			if !w.Fits(tx) {
				t.Fatalf("a disk of %d sectors, costs of %d are left, no room for %d", n, left, k)
			}
			ok(t, w.Append(tx))
			txs, left = append(txs, tx), left-k
			if r.Intn(4) == 0 {
				w = opens(t, p, txs...)
			}
		}
		opens(t, p, txs...)
	}
}

// TestFitsIsWhatAppendFinds: until there is no room, and behind that, too.
func TestFitsIsWhatAppendFinds(t *testing.T) { // P8.3, P8.4
	r := rand.New(rand.NewSource(8))
	for n := 8; n < 60; n++ {
		p, w := formatted(t, n)
		var txs [][][]byte
		for refused := 0; refused < 8; {
			tx := someTx(r, r.Intn(17), 0)
			if len(tx) > 0 {
				tx = someTx(r, len(tx), r.Intn(300))
			}
			fits, steps, had := w.Fits(tx), p.Steps(), content(t, p, 0)
			switch e := w.Append(tx); {
			case fits && e == api.OK:
				txs = append(txs, tx)
			case !fits && e == api.ErrFull && p.Steps() == steps && bytes.Equal(had, content(t, p, 0)):
				refused++
			default:
				t.Fatalf("Fits: %v, Append: %d", fits, e)
			}
		}
		for w.Fits(nil) {
			ok(t, w.Append(nil))
			txs = append(txs, nil)
		}
		if e := w.Append(nil); e != api.ErrFull {
			t.Fatalf("Append of nothing where there is no room: %d", e)
		}
		w = opens(t, p, txs...)
		if w.Fits(nil) {
			t.Fatalf("room behind Open")
		}
		ok(t, w.Truncate())
		if !w.Fits(someFor(r, min(n-4, 33))) {
			t.Fatalf("no room behind Truncate")
		}
	}
}

func TestTruncateOverAndOver(t *testing.T) { // P8.5, P8.3
	r := rand.New(rand.NewSource(9))
	p, w := formatted(t, 12)
	same := someTx(r, 2, 90)
	for round := range 300 {
		var txs [][][]byte
		for range r.Intn(4) {
			tx := same // what is left of older rounds has the same bytes at the same places
			if round%3 == 0 {
				tx = someTx(r, 1+r.Intn(3), r.Intn(100))
			}
			if !w.Fits(tx) {
				continue
			}
			ok(t, w.Append(tx))
			txs = append(txs, tx)
			if r.Intn(3) == 0 {
				w = opens(t, p, txs...)
			}
		}
		w = opens(t, p, txs...)
		ok(t, w.Truncate())
		if r.Intn(2) == 0 {
			w = opens(t, p)
			if r.Intn(2) == 0 {
				ok(t, w.Truncate())
			}
		}
	}
}

func TestGreatestDisk(t *testing.T) { // P8.3, P8.4
	p, w := formatted(t, api.MaxSectors)
	r := rand.New(rand.NewSource(10))
	var txs [][][]byte
	for w.Fits(someFor(r, 33)) {
		tx := someTx(r, 16, 1024)
		ok(t, w.Append(tx))
		txs = append(txs, tx)
	}
	if len(txs) < (api.MaxSectors-4)/34 {
		t.Errorf("room for %d", len(txs))
	}
	opens(t, p, txs...)
}

func TestOpenAndBootAgain(t *testing.T) { // P8.8
	r := rand.New(rand.NewSource(11))
	p, w := formatted(t, 40)
	var txs [][][]byte
	for range 4 {
		tx := someTx(r, 3, 100)
		ok(t, w.Append(tx))
		txs = append(txs, tx)
	}
	for i := range 50 {
		opens(t, p, txs...)
		switch i % 4 {
		case 1:
			p.Boot(nil)
		case 2:
			p.Boot([]int{1, 0})
			p.Boot([]int{0})
		}
	}
}

func TestTwoJournalsKnowNothingOfOneAnother(t *testing.T) { // P8.8
	r := rand.New(rand.NewSource(12))
	p := made(t, []int{20, 9, 30}, []int{5})
	var told [3][][][]byte
	var wals [3]*Wal
	open := func(dev int) {
		w, txs, e := Open(p, dev)
		if e != api.OK || !sameTxs(txs, told[dev]) {
			t.Fatalf("Open(%d): %d, %v; want %v", dev, e, txs, told[dev])
		}
		wals[dev] = w
	}
	for _, dev := range []int{0, 2} {
		ok(t, Format(p, dev))
		open(dev)
	}
	for range 500 {
		dev, tx := 2*r.Intn(2), someTx(r, 1+r.Intn(3), r.Intn(150))
		other := content(t, p, 2-dev)
		switch k := r.Intn(10); {
		case k < 6:
			if wals[dev].Append(tx) == api.OK {
				told[dev] = append(told[dev], tx)
			}
		case k < 7:
			ok(t, wals[dev].Truncate())
			told[dev] = nil
		case k < 8 && r.Intn(3) == 0:
			ok(t, Format(p, dev))
			told[dev] = nil
			open(dev)
		default:
			open(dev)
		}
		if !bytes.Equal(other, content(t, p, 2-dev)) {
			t.Fatalf("a call on disk %d changed the other one", dev)
		}
	}
	open(0)
	open(2)
	if !bytes.Equal(content(t, p, 1), make([]byte, 9*64)) {
		t.Errorf("the disk without a journal was written to")
	}
	ok(t, p.Write(1, 3, someBytes(r, 64)))
	for _, dev := range []int{0, 2} {
		ok(t, wals[dev].Truncate())
		ok(t, Format(p, dev))
		_, _, e := Open(p, dev)
		ok(t, e)
	}
	p.Boot(nil)
	if !bytes.Equal(content(t, p, 1), make([]byte, 9*64)) {
		t.Errorf("the disk without a journal was flushed")
	}
	opensNot(t, p, 1, api.ErrCorrupt)
}

func TestNothingWithoutPower(t *testing.T) { // R3
	p, w := formatted(t, 8)
	p.Fuse(0)
	p.Flush(0)
	for _, e := range []api.Errno{Format(p, 0), w.Append(nil), w.Append([][]byte{{1}}), w.Truncate()} {
		if e != api.ErrPower {
			t.Errorf("without power: %d", e)
		}
	}
	opensNot(t, p, 0, api.ErrPower)
	if !w.Fits(nil) {
		t.Errorf("Fits asks for the power")
	}
}

// TestOldOnesDoNotPanic: what was opened ahead of a Boot, or told that the power
// is off, may be asked anything.
func TestOldOnesDoNotPanic(t *testing.T) { // R1, R3
	for fuse := range 12 {
		p, w := formatted(t, 8)
		p.Fuse(fuse)
		w.Append([][]byte{make([]byte, 60)})
		w.Truncate()
		w.Append(nil)
		p.Boot([]int{1, 0})
		if fuse%2 == 0 {
			ok(t, Format(p, 0))
		}
		if fuse%3 == 0 {
			Open(p, 0)
		}
		for range 20 {
			w.Append([][]byte{make([]byte, 30)})
			w.Fits(nil)
		}
		w.Truncate()
		w.Append(make([][]byte, 16))
		Open(p, 0)
	}
}

// spoil fills all of a list with a byte, the room behind its length too.
func spoil(b []byte, with byte) {
	b = b[:cap(b)]
	for i := range b {
		b[i] = with
	}
}

// roomy is a transaction whose lists have room behind them, with something there.
func roomy(tx [][]byte) [][]byte {
	l := make([][]byte, len(tx)+3)
	for i := range l {
		l[i] = bytes.Repeat([]byte{0xee}, 2000)
	}
	for i, record := range tx {
		copy(l[i], record)
		l[i] = l[i][:len(record)]
	}
	return l[:len(tx)]
}

func TestWhatIsAppendedIsNeitherChangedNorKept(t *testing.T) { // R6
	r := rand.New(rand.NewSource(13))
	p, w := formatted(t, 200)
	var txs [][][]byte
	for records := range 17 {
		tx := someTx(r, records, records*10)
		given := roomy(tx)
		was := make([][]byte, cap(given))
		for i, record := range given[:cap(given)] {
			was[i] = bytes.Clone(record[:cap(record)])
		}
		if !w.Fits(given) {
			t.Fatalf("no room")
		}
		ok(t, w.Append(given))
		for i, record := range given[:cap(given)] {
			if !bytes.Equal(record[:cap(record)], was[i]) {
				t.Fatalf("record %d of %d was changed", i, records)
			}
			spoil(record, 0x55)
		}
		txs = append(txs, tx)
	}
	opens(t, p, txs...)
}

func TestWhatIsToldIsTheCallersOwn(t *testing.T) { // R6
	r := rand.New(rand.NewSource(14))
	p, w := formatted(t, 60)
	var want [][][]byte
	for i := range 5 {
		tx := someTx(r, 3*i, 20*i)
		if i == 1 {
			tx = [][]byte{nil, {1}, nil}
		}
		ok(t, w.Append(tx))
		want = append(want, tx)
	}
	_, first, _ := Open(p, 0)
	_, txs, _ := Open(p, 0)
	var all [][]byte
	for _, tx := range txs {
		all = append(all, tx...)
	}
	for i, record := range all {
		spoil(record, byte(i))
	}
	for i, record := range all {
		if !bytes.Equal(record, bytes.Repeat([]byte{byte(i)}, len(record))) {
			t.Fatalf("record %d shares memory with another one", i)
		}
	}
	for _, tx := range txs {
		clear(tx[:cap(tx)])
	}
	clear(txs[:cap(txs)])
	if !sameTxs(first, want) {
		t.Errorf("two answers share memory")
	}
	opens(t, p, want...)
}
