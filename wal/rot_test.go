package wal

import (
	"math"
	"math/rand"
	"testing"

	"muniment/api"
	"muniment/frame"
	"muniment/plant"
)

// opensRotted opens a disk that rotted, whatever is there.
func opensRotted(t *testing.T, p *plant.Plant) (*Wal, [][][]byte, api.Errno) {
	t.Helper()
	w, txs, e := Open(p, 0)
	switch {
	case e == api.ErrCorrupt && w == nil && len(txs) == 0:
	case e == api.OK && w != nil:
		for _, tx := range txs {
			n := 0
			for _, record := range tx {
				n += len(record)
			}
			if len(tx) > 16 || n > 1024 {
				t.Fatalf("a transaction of %d records, %d bytes", len(tx), n)
			}
		}
	default:
		t.Fatalf("Open of a disk that rotted: %v, %v, %d", w, txs, e)
	}
	return w, txs, e
}

// goesOn asks all that may be asked of the journal of a disk that rotted.
func goesOn(t *testing.T, p *plant.Plant, w *Wal) {
	t.Helper()
	tx := [][]byte{make([]byte, 100), {1}}
	if fits, e := w.Fits(tx), w.Append(tx); fits != (e == api.OK) {
		t.Fatalf("Fits %v, Append %d", fits, e)
	}
	opensRotted(t, p)
	ok(t, w.Truncate())
	opensRotted(t, p)
	ok(t, Format(p, 0))
	opens(t, p)
}

// used is a disk with a journal: transactions, what was left by one that was cut
// off, and what is older than a Truncate.
func used(t *testing.T) (*plant.Plant, [][][]byte) {
	t.Helper()
	r := rand.New(rand.NewSource(1))
	p, w := formatted(t, 24)
	for w.Fits(nil) {
		ok(t, w.Append(nil))
	}
	ok(t, w.Truncate())
	txs := [][][]byte{someTx(r, 2, 90), nil, someTx(r, 16, 150)}
	for _, tx := range txs {
		ok(t, w.Append(tx))
	}
	w = opens(t, p, txs...)
	p.Fuse(5)
	if e := w.Append(someTx(r, 1, 230)); e != api.ErrPower {
		t.Fatalf("not cut off: %d", e)
	}
	p.Boot([]int{1, 0, 1, 1})
	opens(t, p, txs...)
	return p, txs
}

// TestAnyByteRots: the sum of a sector knows of any single byte, so that no other
// transactions are told.
func TestAnyByteRots(t *testing.T) { // P8.7
	p, want := used(t)
	corrupt := 0
	for place := range 24 {
		for at := range 64 {
			for _, by := range []int{1, 0x80, 0xff, 0x54} {
				q := p.Clone()
				if !q.Rot(0, place, at, by) {
					t.Fatalf("Rot")
				}
				w, txs, e := opensRotted(t, q)
				if e != api.OK {
					corrupt++
					continue
				}
				if !sameTxs(txs, want) {
					t.Fatalf("byte %d of sector %d turned by %x: %v; want %v", at, place, by, txs, want)
				}
				goesOn(t, q, w)
			}
		}
	}
	if corrupt == 0 {
		t.Errorf("rot was never seen")
	}
}

func TestManyBytesRot(t *testing.T) { // P8.7
	p, _ := used(t)
	r := rand.New(rand.NewSource(2))
	for range 2000 {
		q := p.Clone()
		for range 1 + r.Intn(20) {
			q.Rot(0, r.Intn(24), r.Intn(64), r.Intn(256))
		}
		if w, _, e := opensRotted(t, q); e == api.OK {
			goesOn(t, q, w)
		}
	}
}

// TestSectorsOfRightSums: rot may turn bytes so that all sums hold.
func TestSectorsOfRightSums(t *testing.T) { // P8.7, R1
	r := rand.New(rand.NewSource(3))
	number := func() uint64 {
		return []uint64{0, 1, 2, 3, maxSession - 2, maxSession - 1, maxSession, math.MaxUint64 - 1, math.MaxUint64}[r.Intn(9)]
	}
	lengths := []int{0, 1, 2, 3, 44, 45, 88, 89, 1055, 1056, 1057, 65535}
	told := 0
	for range 20000 {
		p := made(t, []int{9}, nil)
		ok(t, p.Write(0, 0, head{number(), number()}.sector()))
		session, length := number(), lengths[r.Intn(len(lengths))]
		for i := 1; i < 9; i++ {
			x := part{session: session, index: i - 1, length: length, piece: someBytes(r, pieceSize)}
			switch r.Intn(12) {
			case 0:
				x.index = r.Intn(30)
			case 1:
				x.length = lengths[r.Intn(len(lengths))]
			case 2:
				x.session = number()
			}
			if r.Intn(2) == 0 {
				clear(x.piece)
			}
			ok(t, p.Write(0, i, x.sector()))
		}
		ok(t, p.Flush(0))
		w, txs, e := opensRotted(t, p)
		told += len(txs)
		if e == api.OK {
			goesOn(t, p, w)
		}
	}
	if told == 0 {
		t.Errorf("no transaction was ever told")
	}
}

// laidDown is a disk with a journal whose log has just these sectors.
func laidDown(t *testing.T, log ...[]byte) *plant.Plant {
	t.Helper()
	p := made(t, []int{60}, nil)
	ok(t, p.Write(0, 0, head{session: 5, first: 3}.sector()))
	for i, b := range log {
		ok(t, p.Write(0, 1+i, b))
	}
	ok(t, p.Flush(0))
	return p
}

// bodyOf is of any records, long or not.
func bodyOf(records, each int) []byte {
	var b []byte
	for range records {
		b = append(frame.Number(b, uint64(each), 2), make([]byte, each)...)
	}
	return b
}

// TestRowsThatNoTransactionHas: their sums hold, but no crash leaves them.
func TestRowsThatNoTransactionHas(t *testing.T) { // P8.7
	for name, log := range map[string][][]byte{
		"17 records":             rowOf(4, bodyOf(17, 0)),
		"528 records":            rowOf(4, bodyOf(528, 0)),
		"1025 bytes":             rowOf(4, bodyOf(1, 1025)),
		"1040 bytes":             rowOf(4, bodyOf(8, 130)),
		"a row too long":         rowOf(4, bodyOf(16, 65)),
		"half a length":          rowOf(4, []byte{0}),
		"a record cut off":       rowOf(4, []byte{0, 2, 7}),
		"a length behind all":    rowOf(4, []byte{0, 1, 7, 0}),
		"a record of 65535":      rowOf(4, []byte{255, 255, 1, 2}),
		"a session not given":    rowOf(6, nil),
		"a number past the row":  {part{session: 4, index: 1, length: 20}.sector()},
		"a head":                 {head{5, 3}.sector()},
		"a frame of another one": {sector('X', nil)},
		"a shorter frame":        {append(frame.Pack(kindPart, make([]byte, 54)), 0)},
		"no frame":               {append(make([]byte, 63), 1)},
		"no frame in the row":    {part{session: 4, length: 50}.sector(), append(make([]byte, 63), 1)},
	} {
		t.Run(name, func(t *testing.T) {
			opensNot(t, laidDown(t, log...), 0, api.ErrCorrupt)
			opensNot(t, laidDown(t, append(rowOf(3, body([][]byte{{1}})), log...)...), 0, api.ErrCorrupt)
			// Behind the end of the log it is not looked at.
			opens(t, laidDown(t, append(blank(1), log...)...))
		})
	}
}

// TestRowsThatACrashLeaves: there the log ends.
func TestRowsThatACrashLeaves(t *testing.T) { // P8.6
	for name, log := range map[string][][]byte{
		"nothing":                 {},
		"no first part":           rowOf(4, bodyOf(1, 60))[1:],
		"a row of an older time":  rowOf(2, body([][]byte{{1}})),
		"half a row":              rowOf(4, bodyOf(2, 100))[:4],
		"half of another session": {rowOf(4, bodyOf(1, 60))[0], rowOf(5, bodyOf(1, 60))[1]},
		"half of an older time":   {rowOf(4, bodyOf(1, 60))[0], rowOf(2, bodyOf(1, 60))[1]},
		"half of another length":  {rowOf(4, bodyOf(1, 60))[0], rowOf(4, bodyOf(1, 61))[1]},
		"its first part twice":    {rowOf(4, bodyOf(1, 60))[0], rowOf(4, bodyOf(1, 60))[0]},
	} {
		t.Run(name, func(t *testing.T) {
			opens(t, laidDown(t, log...))
			opens(t, laidDown(t, append(rowOf(3, body([][]byte{{1}})), log...)...), [][]byte{{1}})
		})
	}
}

func TestHeadsThatAreNone(t *testing.T) { // P8.2, P8.7
	for name, b := range map[string][]byte{
		"a later first session": head{session: 4, first: 5}.sector(),
		"no next session":       head{session: math.MaxUint64, first: 1}.sector(),
		"beyond all sessions":   head{session: maxSession, first: 1}.sector(),
		"a part's kind":         sector(kindPart, make([]byte, 16)),
		"more than two numbers": sector(kindHead, append(make([]byte, 54), 1)),
		"a shorter frame":       append(frame.Pack(kindHead, make([]byte, 54)), 0),
		"no bytes in it":        append(frame.Pack(kindHead, nil), make([]byte, 55)...),
	} {
		p := made(t, []int{8}, nil)
		ok(t, p.Write(0, 0, b))
		if w, txs, e := Open(p, 0); e != api.ErrCorrupt || w != nil || len(txs) > 0 {
			t.Errorf("%s: %d", name, e)
		}
	}
}
