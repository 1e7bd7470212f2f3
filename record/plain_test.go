package record

import (
	"bytes"
	"encoding/binary"
	"math/rand"
	"slices"
	"strings"
	"testing"

	"muniment/api"
)

const signs = "abcdefghijklmnopqrstuvwxyz0123456789-."

// plainName is Name, as the chapter says it.
func plainName(id string) bool {
	return len(id) >= 1 && len(id) <= 16 && strings.Trim(id, signs) == ""
}

// plainEntry lays an entry's parts one behind the other, whatever they are, so that
// wrong ones can be made too; the count of the id's bytes is told as it is given.
func plainEntry(count byte, id string, length uint16, root api.Hash) []byte {
	b := append([]byte{count}, id...)
	b = binary.BigEndian.AppendUint16(b, length)
	return append(b, root[:]...)
}

// parts are a record's as they stand in its bytes, in their order; each may be
// wrong.
type parts struct {
	idCount byte
	id      string
	length  uint16
	root    api.Hash
	index   uint32
	expiry  uint64 // its lowest six bytes
	flags   byte
	copies  byte
	places  []placeParts
}

type placeParts struct {
	dev byte
	at  uint16
	len byte
	bad byte
}

func (p parts) bytes() []byte {
	b := plainEntry(p.idCount, p.id, p.length, p.root)
	b = binary.BigEndian.AppendUint32(b, p.index)
	b = append(b, binary.BigEndian.AppendUint64(nil, p.expiry)[2:]...)
	b = append(b, p.flags, p.copies)
	for _, c := range p.places {
		b = append(b, c.dev)
		b = binary.BigEndian.AppendUint16(b, c.at)
		b = append(b, c.len, c.bad)
	}
	return b
}

// partsOf are those of a record that may be.
func partsOf(r api.Record) parts {
	p := parts{
		idCount: byte(len(r.ID)), id: r.ID, length: uint16(r.Length), root: r.Root,
		index: uint32(r.Index), expiry: uint64(r.Expiry), copies: byte(len(r.Copies)),
	}
	if r.Hold {
		p.flags++
	}
	if r.Gone {
		p.flags += 2
	}
	for _, c := range r.Copies {
		x := placeParts{dev: byte(c.Dev), at: uint16(c.At), len: byte(c.Len)}
		if c.Bad {
			x.bad = 1
		}
		p.places = append(p.places, x)
	}
	return p
}

// plainDecode finds the places of all parts by the counts first, and looks at the
// parts then.
func plainDecode(b []byte) (api.Record, bool) {
	if len(b) < 1 || len(b) < 1+int(b[0])+2+32+4+6+2 {
		return api.Record{}, false
	}
	id, length, root, ok := plainRead(b[:1+int(b[0])+34])
	x := b[1+int(b[0])+34:]
	index := binary.BigEndian.Uint32(x)
	expiry := binary.BigEndian.Uint64(append([]byte{0, 0}, x[4:10]...))
	flags, count, rows := x[10], int(x[11]), x[12:]
	if !ok || index >= 1<<31 || expiry > 1<<40 || flags > 3 || count > 8 || len(rows) != 5*count {
		return api.Record{}, false
	}
	r := api.Record{ID: id, Length: length, Root: root, Index: int(index), Expiry: int(expiry), Hold: flags%2 == 1, Gone: flags/2 == 1}
	for row := range slices.Chunk(rows, 5) {
		at := binary.BigEndian.Uint16(row[1:])
		if row[0] >= 12 || at >= 4096 || row[4] > 1 {
			return api.Record{}, false
		}
		r.Copies = append(r.Copies, api.Place{Dev: int(row[0]), At: int(at), Len: int(row[3]), Bad: row[4] == 1})
	}
	return r, true
}

func plainRead(b []byte) (id string, length int, root api.Hash, ok bool) {
	if len(b) < 1 || len(b) != 1+int(b[0])+2+32 {
		return "", 0, api.Hash{}, false
	}
	id = string(b[1 : len(b)-34])
	length = int(binary.BigEndian.Uint16(b[len(b)-34:]))
	if !plainName(id) || length > 512 {
		return "", 0, api.Hash{}, false
	}
	return id, length, api.Hash(b[len(b)-32:]), true
}

func sameRecord(a, b api.Record) bool {
	return a.ID == b.ID && a.Length == b.Length && a.Root == b.Root && a.Index == b.Index && a.Expiry == b.Expiry &&
		a.Hold == b.Hold && a.Gone == b.Gone && slices.Equal(a.Copies, b.Copies)
}

// encodes fails, if the record's bytes are not these.
func encodes(t *testing.T, r api.Record, want []byte) {
	t.Helper()
	if b, e := Encode(r); e != api.OK || !bytes.Equal(b, want) {
		t.Fatalf("Encode(%+v): % x, %d; want % x", r, b, e, want)
	}
}

// mayNotBe fails, if Encode takes the record, or tells anything beside the error.
func mayNotBe(t *testing.T, r api.Record, why string) {
	t.Helper()
	if b, e := Encode(r); e != api.ErrRecord || len(b) != 0 {
		t.Fatalf("%s: Encode(%+v): % x, %d", why, r, b, e)
	}
}

// decodes fails, if the bytes are not this record.
func decodes(t *testing.T, b []byte, want api.Record) {
	t.Helper()
	if r, e := Decode(b); e != api.OK || !sameRecord(r, want) {
		t.Fatalf("Decode(% x): %+v, %d; want %+v", b, r, e, want)
	}
}

// noRecord fails, if Decode takes the bytes, or tells anything beside the error.
func noRecord(t *testing.T, b []byte, why string) {
	t.Helper()
	if r, e := Decode(b); e != api.ErrRecord || !sameRecord(r, api.Record{}) {
		t.Fatalf("%s: Decode(% x): %+v, %d", why, b, r, e)
	}
}

// thereAndBack fails, unless the record is written as it must be, and read back.
func thereAndBack(t *testing.T, r api.Record) {
	t.Helper()
	b := partsOf(r).bytes()
	encodes(t, r, b)
	decodes(t, b, r)
}

// anyBytes fails, unless Decode and Read tell of the bytes what the plain ones tell,
// and what was read is written again as it stood.
func anyBytes(t *testing.T, b []byte) {
	t.Helper()
	if r, ok := plainDecode(b); ok {
		decodes(t, b, r)
		encodes(t, r, b)
	} else {
		noRecord(t, b, "no record")
	}
	if id, length, root, ok := plainRead(b); ok {
		reads(t, b, id, length, root)
		isEntry(t, id, length, root, b)
	} else {
		noEntry(t, b, "no entry")
	}
}

// isEntry fails, if the entry's bytes are not these.
func isEntry(t *testing.T, id string, length int, root api.Hash, want []byte) {
	t.Helper()
	if b, e := Entry(id, length, root); e != api.OK || !bytes.Equal(b, want) {
		t.Fatalf("Entry(%q, %d): % x, %d; want % x", id, length, b, e, want)
	}
}

// noEntryOf fails, if Entry takes them, or tells anything beside the error.
func noEntryOf(t *testing.T, id string, length int, root api.Hash) {
	t.Helper()
	if b, e := Entry(id, length, root); e != api.ErrRecord || len(b) != 0 {
		t.Fatalf("Entry(%q, %d): % x, %d", id, length, b, e)
	}
}

// reads fails, if the bytes are not this entry.
func reads(t *testing.T, b []byte, id string, length int, root api.Hash) {
	t.Helper()
	if i, n, h, e := Read(b); i != id || n != length || h != root || e != api.OK {
		t.Fatalf("Read(% x): %q, %d, % x, %d; want %q, %d, % x", b, i, n, h, e, id, length, root)
	}
}

// noEntry fails, if Read takes the bytes, or tells anything beside the error.
func noEntry(t *testing.T, b []byte, why string) {
	t.Helper()
	if id, n, h, e := Read(b); id != "" || n != 0 || h != (api.Hash{}) || e != api.ErrRecord {
		t.Fatalf("%s: Read(% x): %q, %d, % x, %d", why, b, id, n, h, e)
	}
}

func someName(r *rand.Rand, n int) string {
	b := make([]byte, n)
	for i := range b {
		b[i] = signs[r.Intn(len(signs))]
	}
	return string(b)
}

func someRoot(r *rand.Rand) (h api.Hash) {
	r.Read(h[:])
	return h
}

// upTo draws a number from 0 to most, often one of both.
func upTo(r *rand.Rand, most int) int {
	switch r.Intn(4) {
	case 0:
		return 0
	case 1:
		return most
	}
	return r.Intn(most + 1)
}

func someRecord(r *rand.Rand, ids, copies int) api.Record {
	x := api.Record{
		ID: someName(r, ids), Length: upTo(r, 512), Root: someRoot(r), Index: upTo(r, 1<<31-1),
		Expiry: upTo(r, 1<<40), Hold: r.Intn(2) == 1, Gone: r.Intn(2) == 1,
	}
	for range copies {
		x.Copies = append(x.Copies, api.Place{Dev: upTo(r, 11), At: upTo(r, 4095), Len: upTo(r, 255), Bad: r.Intn(2) == 1})
	}
	return x
}

// someRecords have each count of the ID's bytes with each count of copies.
func someRecords(r *rand.Rand) []api.Record {
	var l []api.Record
	for ids := 1; ids <= 16; ids++ {
		for copies := range 9 {
			l = append(l, someRecord(r, ids, copies))
		}
	}
	return l
}

// greatest is the record of the most bytes, each of its numbers at its upper bound.
func greatest() api.Record {
	r := api.Record{ID: "zyxwvu-9876.5432", Length: 512, Index: 1<<31 - 1, Expiry: 1 << 40, Hold: true, Gone: true}
	for i := range r.Root {
		r.Root[i] = byte(255 - i)
	}
	for range 8 {
		r.Copies = append(r.Copies, api.Place{Dev: 11, At: 4095, Len: 255, Bad: true})
	}
	return r
}
