package record

import (
	"math/rand"
	"runtime"
	"slices"
	"testing"

	"muniment/api"
)

// written are bytes of records and of entries, short ones and long ones.
func written(r *rand.Rand) [][]byte {
	records := []api.Record{greatest(), {ID: "a"}}
	for _, ids := range []int{1, 2, 9, 16} {
		for _, copies := range []int{0, 1, 3, 8} {
			records = append(records, someRecord(r, ids, copies))
		}
	}
	var l [][]byte
	for _, x := range records {
		l = append(l, partsOf(x).bytes(), plainEntry(byte(len(x.ID)), x.ID, uint16(x.Length), x.Root))
	}
	return l
}

func TestBytesCutAtEveryPlace(t *testing.T) { // P11.3, P11.4
	rnd := rand.New(rand.NewSource(11))
	for _, x := range someRecords(rnd) {
		b := partsOf(x).bytes()
		for n := range len(b) {
			noRecord(t, b[:n], "cut")
			noRecord(t, slices.Clone(b[:n]), "cut")
			anyBytes(t, b[:n])
			if n > 0 {
				anyBytes(t, b[n:])
			}
		}
		entry := b[:len(x.ID)+35]
		reads(t, entry, x.ID, x.Length, x.Root)
		for n := range len(entry) {
			noEntry(t, entry[:n], "cut")
			noEntry(t, slices.Clone(entry[:n]), "cut")
		}
	}
}

func TestBytesBehind(t *testing.T) { // P11.3, P11.4
	rnd := rand.New(rand.NewSource(12))
	for _, x := range someRecords(rnd) {
		b := partsOf(x).bytes()
		entry := b[:len(x.ID)+35]
		for c := range 256 {
			noRecord(t, append(slices.Clone(b), byte(c)), "a byte behind")
			noEntry(t, append(slices.Clone(entry), byte(c)), "a byte behind")
		}
		for _, n := range []int{2, 5, 10, 12, 40, 1000} {
			noRecord(t, append(slices.Clone(b), make([]byte, n)...), "bytes behind")
			noEntry(t, append(slices.Clone(entry), make([]byte, n)...), "bytes behind")
		}
		noRecord(t, slices.Concat(b, b), "twice")
		noEntry(t, slices.Concat(entry, entry), "twice")
		noRecord(t, entry, "an entry alone")
		noEntry(t, b, "a record")
	}
}

func TestEachByteTurnedToAnyOther(t *testing.T) { // P11.3 to P11.5
	rnd := rand.New(rand.NewSource(13))
	for _, b := range written(rnd) {
		for i, was := range b {
			for c := range 256 {
				b[i] = byte(c)
				anyBytes(t, b)
			}
			b[i] = was
		}
	}
}

func TestTwoBytesTurned(t *testing.T) { // P11.3 to P11.5
	rnd := rand.New(rand.NewSource(14))
	for _, b := range written(rnd) {
		for range 2000 {
			c := slices.Clone(b)
			c[rnd.Intn(len(c))] = byte(rnd.Intn(256))
			c[rnd.Intn(len(c))] = byte(rnd.Intn(20))
			anyBytes(t, c)
		}
	}
}

func TestCountOfTheIDTellsAnother(t *testing.T) { // P11.3, P11.4
	rnd := rand.New(rand.NewSource(15))
	for ids := range 20 {
		for copies := range 9 {
			p := partsOf(someRecord(rnd, 5, copies))
			p.id = someName(rnd, ids)
			for count := range 256 {
				p.idCount = byte(count)
				anyBytes(t, p.bytes())
				anyBytes(t, plainEntry(p.idCount, p.id, p.length, p.root))
			}
			p.idCount = byte(ids)
			if ids < 1 || ids > 16 {
				noRecord(t, p.bytes(), "an ID that is no name")
				noEntry(t, plainEntry(p.idCount, p.id, p.length, p.root), "an id that is no name")
			}
		}
	}
}

func TestCountOfCopiesTellsAnother(t *testing.T) { // P11.3
	rnd := rand.New(rand.NewSource(16))
	for copies := range 20 {
		p := partsOf(someRecord(rnd, 1+rnd.Intn(16), copies))
		for count := range 256 {
			p.copies = byte(count)
			if count != copies || count > 8 {
				noRecord(t, p.bytes(), "a wrong count of copies")
			}
			anyBytes(t, p.bytes())
		}
	}
	for _, copies := range []int{255, 256} {
		p := partsOf(someRecord(rnd, 3, copies))
		noRecord(t, p.bytes(), "too many copies")
	}
}

func TestDecodeOfNumbersBeyondTheirBounds(t *testing.T) { // P11.3, P11.4
	rnd := rand.New(rand.NewSource(17))
	for range 20 {
		good := partsOf(someRecord(rnd, 1+rnd.Intn(16), 8))
		for _, n := range []uint16{513, 514, 1024, 1 << 15, 65535} {
			p := good
			p.length = n
			noRecord(t, p.bytes(), "Length")
			noEntry(t, plainEntry(p.idCount, p.id, n, p.root), "length")
		}
		for _, n := range []uint32{1 << 31, 1<<31 + 1, 1<<32 - 1} {
			p := good
			p.index = n
			noRecord(t, p.bytes(), "Index")
		}
		for _, n := range []uint64{1<<40 + 1, 1<<40 + 2, 1 << 41, 1 << 47, 1<<48 - 1} {
			p := good
			p.expiry = n
			noRecord(t, p.bytes(), "Expiry")
		}
		for i := range good.places {
			noPlaces(t, good, i)
		}
	}
}

// noPlaces makes one copy wrong in each way that there is.
func noPlaces(t *testing.T, good parts, i int) {
	t.Helper()
	with := func(turn func(c *placeParts)) []byte {
		p := good
		p.places = slices.Clone(good.places)
		turn(&p.places[i])
		return p.bytes()
	}
	for n := 12; n < 256; n++ {
		noRecord(t, with(func(c *placeParts) { c.dev = byte(n) }), "Dev")
	}
	for n := 4096; n < 65536; n = 2*n + n%3 {
		noRecord(t, with(func(c *placeParts) { c.at = uint16(n) }), "At")
	}
	noRecord(t, with(func(c *placeParts) { c.at = 65535 }), "At")
	for n := 2; n < 256; n++ {
		noRecord(t, with(func(c *placeParts) { c.bad = byte(n) }), "Bad")
	}
	for n := range 256 {
		b := with(func(c *placeParts) { c.len, c.bad = byte(n), byte(n%2) })
		want, ok := plainDecode(b)
		if !ok || want.Copies[i].Len != n || want.Copies[i].Bad != (n%2 == 1) {
			t.Fatalf("the plain Decode(% x): %+v, %v", b, want, ok)
		}
		decodes(t, b, want)
		encodes(t, want, b)
	}
}

func TestAnyBytes(t *testing.T) { // P11.3, P11.4, R1
	rnd := rand.New(rand.NewSource(18))
	for _, none := range [][]byte{nil, {}} {
		noRecord(t, none, "none")
		noEntry(t, none, "none")
	}
	for n := range 300 {
		for _, c := range []byte{0, 1, 2, 16, '-', 'a', 127, 128, 255} {
			b := make([]byte, n)
			for i := range b {
				b[i] = c
			}
			anyBytes(t, b)
		}
		for range 200 {
			b := make([]byte, n)
			rnd.Read(b)
			anyBytes(t, b)
			for i := range b {
				b[i] %= 4
			}
			anyBytes(t, b)
		}
	}
}

// A record's numbers are read without a copy of what is behind them.
func TestManyBytesBehind(t *testing.T) { // P11.3, P11.4, R1
	b := append(partsOf(greatest()).bytes(), make([]byte, 1<<24)...)
	var was, now runtime.MemStats
	runtime.ReadMemStats(&was)
	r, e := Decode(b)
	id, _, _, f := Read(b)
	runtime.ReadMemStats(&now)
	if e != api.ErrRecord || f != api.ErrRecord || !sameRecord(r, api.Record{}) || id != "" {
		t.Errorf("%+v, %d; %q, %d", r, e, id, f)
	}
	if took := now.TotalAlloc - was.TotalAlloc; took > 1<<20 {
		t.Errorf("took %d bytes of memory", took)
	}
}
