package record

import (
	"bytes"
	"math"
	"math/rand"
	"slices"
	"strings"
	"testing"

	"muniment/api"
)

func TestExamples(t *testing.T) { // P11.1 to P11.4
	for id, want := range map[string]bool{"a-1.x": true, "": false, "A": false, strings.Repeat("a", 17): false} {
		if Name(id) != want {
			t.Errorf("Name(%q) is not %v", id, want)
		}
	}
	isEntry(t, "a", 3, api.Hash{}, append([]byte{1, 0x61, 0, 3}, make([]byte, 32)...))
	b := append([]byte{1, 0x61, 0, 0}, make([]byte, 32+4+6+2)...)
	encodes(t, api.Record{ID: "a"}, b)
	decodes(t, b, api.Record{ID: "a"})
	noRecord(t, append(slices.Clone(b), 0), "a byte 00 behind")
	b[len(b)-2] = 4
	noRecord(t, b, "the flags 04")
}

func TestNameOfEachLength(t *testing.T) { // P11.1
	r := rand.New(rand.NewSource(1))
	for n := range 600 {
		want := n >= 1 && n <= 16
		for _, id := range []string{someName(r, n), strings.Repeat("a", n), strings.Repeat(".", n)} {
			if Name(id) != want {
				t.Fatalf("Name(%q) of %d bytes is not %v", id, n, want)
			}
		}
	}
}

func TestNameOfEachByteAtEachPlace(t *testing.T) { // P11.1
	for n := 1; n <= 16; n++ {
		for at := range n {
			for c := range 256 {
				b := bytes.Repeat([]byte{'m'}, n)
				b[at] = byte(c)
				if want := strings.IndexByte(signs, byte(c)) >= 0; Name(string(b)) != want {
					t.Fatalf("Name(%q) is not %v", b, want)
				}
			}
		}
	}
}

func TestNameIsOfBytes(t *testing.T) { // P11.1
	for _, id := range []string{
		"é", "aé", "ａ", "\u0430", "\xff", "a\xc3", "a\x00", "\x00", " a", "a ", "a\n", "-é-", "ſ", "K",
		"/", ":", "`", "{", ",", "_", "+", "a,b", "a/b", "0:1", "@", "[", "A-1",
	} {
		if Name(id) {
			t.Errorf("Name(%q)", id)
		}
	}
	for _, id := range []string{"a", "z", "0", "9", "-", ".", "..", "--", "-.", "a.b-c", "0123456789.-az"} {
		if !Name(id) {
			t.Errorf("not Name(%q)", id)
		}
	}
}

func TestEncodeOfKnownBytes(t *testing.T) { // P11.2
	r := api.Record{
		ID: "b-2.z", Length: 0x0123, Index: 0x12345678, Expiry: 0x8090a0b0c0, Hold: true,
		Copies: []api.Place{{Dev: 2, At: 0x0abc, Len: 0x11}, {Dev: 11, At: 0x0102, Len: 0xfe, Bad: true}},
	}
	want := []byte{5, 'b', '-', '2', '.', 'z', 0x01, 0x23}
	for i := range r.Root {
		r.Root[i] = byte(i + 1)
		want = append(want, byte(i+1))
	}
	want = append(want, 0x12, 0x34, 0x56, 0x78)
	want = append(want, 0x00, 0x80, 0x90, 0xa0, 0xb0, 0xc0)
	want = append(want, 1, 2)
	want = append(want, 2, 0x0a, 0xbc, 0x11, 0)
	want = append(want, 11, 0x01, 0x02, 0xfe, 1)
	encodes(t, r, want)
	decodes(t, want, r)
}

func TestAllFlags(t *testing.T) { // P11.2, P11.3
	r := someRecord(rand.New(rand.NewSource(2)), 3, 2)
	for flags := range 256 {
		r.Hold, r.Gone = flags%2 == 1, flags/2%2 == 1
		p := partsOf(r)
		p.flags = byte(flags)
		if flags > 3 {
			noRecord(t, p.bytes(), "flags above 3")
			continue
		}
		encodes(t, r, p.bytes())
		decodes(t, p.bytes(), r)
	}
}

// setters are the numbers of a record with copies, each with its upper bound and how
// it is set.
func setters() []setter {
	l := []setter{
		{"Length", 512, func(r *api.Record, n int) { r.Length = n }},
		{"Index", 1<<31 - 1, func(r *api.Record, n int) { r.Index = n }},
		{"Expiry", 1 << 40, func(r *api.Record, n int) { r.Expiry = n }},
	}
	for i := range 8 {
		l = append(l,
			setter{"Dev", 11, func(r *api.Record, n int) { r.Copies[i].Dev = n }},
			setter{"At", 4095, func(r *api.Record, n int) { r.Copies[i].At = n }},
			setter{"Len", 255, func(r *api.Record, n int) { r.Copies[i].Len = n }})
	}
	return l
}

type setter struct {
	name string
	most int
	set  func(r *api.Record, n int)
}

func TestEachNumberAtItsBounds(t *testing.T) { // P11.2, P11.5
	rnd := rand.New(rand.NewSource(3))
	for _, s := range setters() {
		for range 5 {
			r := someRecord(rnd, 1+rnd.Intn(16), 8)
			for _, n := range []int{0, 1, s.most - 1, s.most, rnd.Intn(s.most)} {
				s.set(&r, n)
				thereAndBack(t, r)
			}
			wrong := []int{-1, -2, s.most + 1, s.most + 2, -s.most, math.MaxInt, math.MinInt}
			for bit := 8; bit < 63; bit++ {
				wrong = append(wrong, s.most+1<<bit, -1<<bit)
			}
			for _, n := range wrong {
				s.set(&r, n)
				mayNotBe(t, r, s.name)
			}
		}
	}
}

func TestEncodeOfWrongIDs(t *testing.T) { // P11.2, P11.4
	r := greatest()
	for _, id := range []string{"", "A", "a b", "a_", "é", "\x00", strings.Repeat("a", 17), strings.Repeat("a", 257), strings.Repeat("a", 1<<16)} {
		r.ID = id
		mayNotBe(t, r, "no name")
		mayNotBe(t, api.Record{ID: id}, "no name")
		noEntryOf(t, id, 3, r.Root)
	}
	mayNotBe(t, api.Record{}, "nothing")
	for c := range 256 {
		for _, at := range []int{0, 7, 15} {
			b := []byte(greatest().ID)
			b[at] = byte(c)
			r.ID = string(b)
			if plainName(r.ID) {
				thereAndBack(t, r)
			} else {
				mayNotBe(t, r, "no name")
			}
		}
	}
}

func TestHowManyCopies(t *testing.T) { // P11.2, P11.5
	rnd := rand.New(rand.NewSource(4))
	for n := range 9 {
		thereAndBack(t, someRecord(rnd, 1+rnd.Intn(16), n))
	}
	for _, n := range []int{9, 10, 16, 255, 256, 257, 264, 65536} {
		mayNotBe(t, someRecord(rnd, 1+rnd.Intn(16), n), "too many copies")
	}
	for _, none := range [][]api.Place{nil, {}, make([]api.Place, 0, 4)} {
		encodes(t, api.Record{ID: "x", Copies: none}, partsOf(api.Record{ID: "x"}).bytes())
	}
}

// The parts that P11.2 lists are 103 bytes of a record of MaxID bytes and MaxCopies
// copies. P11.5 says 104, which is one more than they make: with 63 bytes ahead of the
// copies there would be 41 for eight of them. The bytes that P11.2 lists hold.
func TestTheGreatestRecord(t *testing.T) { // P11.2, P11.5
	rnd := rand.New(rand.NewSource(5))
	records := []api.Record{greatest()}
	for range 100 {
		records = append(records, someRecord(rnd, api.MaxID, api.MaxCopies))
	}
	for _, r := range records {
		if b, e := Encode(r); e != api.OK || len(b) != 103 {
			t.Fatalf("Encode(%+v): %d bytes, %d", r, len(b), e)
		}
		thereAndBack(t, r)
	}
}

func TestEachPartAddsItsBytes(t *testing.T) { // P11.2
	for _, r := range someRecords(rand.New(rand.NewSource(8))) {
		if b, e := Encode(r); e != api.OK || len(b) != 47+len(r.ID)+5*len(r.Copies) {
			t.Fatalf("Encode(%+v): %d bytes, %d", r, len(b), e)
		}
	}
}

func TestDecodeOfEncodeIsTheRecord(t *testing.T) { // P11.5
	rnd := rand.New(rand.NewSource(6))
	for range 20 {
		for _, r := range someRecords(rnd) {
			thereAndBack(t, r)
			b, e := Encode(r)
			if e != api.OK {
				t.Fatalf("Encode(%+v): %d", r, e)
			}
			decodes(t, b, r)
		}
	}
}

func TestEntries(t *testing.T) { // P11.4, P11.5
	rnd := rand.New(rand.NewSource(7))
	for n := 1; n <= 16; n++ {
		for _, length := range []int{0, 1, 255, 256, 257, 511, 512, rnd.Intn(513)} {
			id, root := someName(rnd, n), someRoot(rnd)
			b := plainEntry(byte(n), id, uint16(length), root)
			isEntry(t, id, length, root, b)
			reads(t, b, id, length, root)
		}
		for _, length := range []int{-1, -512, 513, 514, 1024, 65535, 65536, 65539, 1 << 32, 1<<32 + 3, math.MaxInt, math.MinInt} {
			noEntryOf(t, someName(rnd, n), length, someRoot(rnd))
		}
	}
}

func TestEntryOfAnErrorsBothCauses(t *testing.T) { // P11.4
	noEntryOf(t, "", 513, api.Hash{1})
	noEntryOf(t, "A", -1, api.Hash{1})
}

func TestWhatIsHandedInIsNotChanged(t *testing.T) { // R6
	room := make([]api.Place, 4, 8)
	for i := range room[:8] {
		room[:8][i] = api.Place{Dev: i, At: 10 * i, Len: i, Bad: i%2 == 1}
	}
	was := slices.Clone(room[:8])
	r := api.Record{ID: "a", Copies: room}
	b := partsOf(r).bytes()
	encodes(t, r, b)
	if !slices.Equal(room[:8], was) {
		t.Errorf("the copies are %v now", room[:8])
	}
	// What is behind the length would be one copy more.
	in := append(slices.Clone(b), 1, 2, 3, 4, 1)
	seen := slices.Clone(in)
	decodes(t, in[:len(b)], r)
	noRecord(t, in[:len(b)-1], "cut, with room behind")
	entry := 1 + 1 + 2 + 32
	reads(t, in[:entry], "a", 0, api.Hash{})
	noEntry(t, in[:entry-1], "cut, with room behind")
	if !bytes.Equal(in, seen) {
		t.Errorf("the bytes are % x now", in)
	}
}

func TestAnswersAreNewMemory(t *testing.T) { // R6
	r := greatest()
	b, _ := Encode(r)
	in := slices.Clone(b)
	x, _ := Decode(in)
	y, _ := Decode(in)
	id, _, root, _ := Read(in[:51])
	for i := range in {
		in[i] = 'q'
	}
	for i := range y.Copies[:cap(y.Copies)] {
		y.Copies[:cap(y.Copies)][i] = api.Place{Dev: 99}
	}
	if !sameRecord(x, r) || id != r.ID || root != r.Root {
		t.Errorf("%+v, %q changed with the bytes that it was read from", x, id)
	}
	for _, again := range []func() []byte{
		func() []byte { b, _ := Encode(r); return b },
		func() []byte { b, _ := Entry(r.ID, r.Length, r.Root); return b },
	} {
		was := again()
		b := again()
		b = b[:cap(b)]
		for i := range b {
			b[i] = 'q'
		}
		if !bytes.Equal(again(), was) {
			t.Error("a written answer is to be seen in the next one")
		}
	}
	thereAndBack(t, r)
}
