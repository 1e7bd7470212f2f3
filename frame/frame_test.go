package frame

import (
	"bytes"
	"encoding/binary"
	"hash/crc32"
	"math"
	"math/rand"
	"testing"

	"muniment/api"
)

// plainFrame is a frame, part by part as the chapter has them; the length is
// told as it is given, so that wrong ones can be made too.
func plainFrame(length uint32, kind byte, payload []byte) []byte {
	f := binary.BigEndian.AppendUint32(nil, length)
	f = append(append(f, kind), payload...)
	return binary.BigEndian.AppendUint32(f, crc32.ChecksumIEEE(f))
}

func join(parts ...[]byte) []byte { return bytes.Join(parts, nil) }

func someBytes(r *rand.Rand, n int) []byte {
	b := make([]byte, n)
	r.Read(b)
	return b
}

// unpacks fails, if b does not begin with this frame, or has not rest behind it.
func unpacks(t *testing.T, b []byte, kind byte, payload, rest []byte) {
	t.Helper()
	k, p, q, e := Unpack(b)
	if k != kind || !bytes.Equal(p, payload) || !bytes.Equal(q, rest) || e != api.OK {
		t.Fatalf("Unpack of %d bytes: %d, %d and %d bytes, %v; want %d, %d and %d bytes",
			len(b), k, len(p), len(q), e, kind, len(payload), len(rest))
	}
}

// noFrame fails, if Unpack takes b, or tells anything beside the error.
func noFrame(t *testing.T, b []byte, why string) {
	t.Helper()
	if k, p, q, e := Unpack(b); k != 0 || len(p) != 0 || len(q) != 0 || e != api.ErrFrame {
		t.Fatalf("%s: %d, %d and %d bytes, %v", why, k, len(p), len(q), e)
	}
}

// takes fails, if b does not begin with this number, or has not rest behind it.
func takes(t *testing.T, b []byte, size int, n uint64, rest []byte) {
	t.Helper()
	if m, q, e := Take(b, size); m != n || !bytes.Equal(q, rest) || e != api.OK {
		t.Fatalf("Take(% x, %d): %d, % x, %v; want %d, % x", b, size, m, q, e, n, rest)
	}
}

// refuses fails, if Take is not that error, or tells anything beside it.
func refuses(t *testing.T, b []byte, size int, want api.Errno) {
	t.Helper()
	if m, q, e := Take(b, size); m != 0 || len(q) != 0 || e != want {
		t.Fatalf("Take(% x, %d): %d, % x, %v; want the error %v", b, size, m, q, e, want)
	}
}

// edgeNumbers lie where a number's bytes begin and end; drawn ones are added.
func edgeNumbers(r *rand.Rand) []uint64 {
	numbers := []uint64{0, 258, 0x0102030405060708, 0xfffefdfcfbfaf9f8, math.MaxInt64, math.MaxUint64}
	for i := range 64 {
		numbers = append(numbers, 1<<i, 1<<i-1, ^uint64(1<<i))
	}
	for range 50 {
		numbers = append(numbers, r.Uint64())
	}
	return numbers
}

// wrongSizes are sizes that no number has.
func wrongSizes() []int {
	return []int{0, -1, -2, -8, 9, 10, 16, 64, 255, 256, 257, 264, math.MaxInt32, math.MinInt32, math.MaxInt, math.MinInt}
}

// lowest is the number that the lowest size bytes of n make.
func lowest(n uint64, size int) uint64 {
	if size == 8 {
		return n
	}
	return n & (1<<(8*size) - 1)
}

func TestExamples(t *testing.T) { // P4.1 to P4.4
	head := []byte{0, 0, 0, 0, 7}
	want := binary.BigEndian.AppendUint32(head, crc32.ChecksumIEEE(head))
	for _, none := range [][]byte{nil, {}} {
		if b := Pack(7, none); !bytes.Equal(b, want) {
			t.Errorf("Pack(7, none): % x, want % x", b, want)
		}
		noFrame(t, none, "none")
	}
	unpacks(t, append(Pack(7, []byte("ab")), 'c'), 7, []byte("ab"), []byte("c"))
	noFrame(t, join([]byte{0xff, 0xff, 0xff, 0xff, 0}, make([]byte, 100)), "ff ff ff ff 00 and 100 bytes")
	for _, x := range []struct {
		size int
		want []byte
	}{{2, []byte{0x61, 1, 2}}, {1, []byte{0x61, 2}}, {9, []byte{0x61}}} {
		if b := Number([]byte{0x61}, 258, x.size); !bytes.Equal(b, x.want) {
			t.Errorf("Number(61, 258, %d): % x, want % x", x.size, b, x.want)
		}
	}
	takes(t, []byte{1, 2, 3}, 2, 258, []byte{3})
	refuses(t, []byte{1}, 2, api.ErrFrame)
	refuses(t, []byte{1}, 0, api.ErrArg)
}

func TestFramesOfKnownBytes(t *testing.T) { // P4.1
	for _, x := range []struct {
		payload string
		want    []byte
	}{
		{"", []byte{0, 0, 0, 0, 7, 0x58, 0x46, 0x62, 0xbe}},
		{"ab", []byte{0, 0, 0, 2, 7, 0x61, 0x62, 0xed, 0x70, 0x5b, 0xe2}},
	} {
		if b := Pack(7, []byte(x.payload)); !bytes.Equal(b, x.want) {
			t.Errorf("Pack(7, %q): % x, want % x", x.payload, b, x.want)
		}
		unpacks(t, x.want, 7, []byte(x.payload), nil)
	}
}

func TestPackOfEveryKindAndLength(t *testing.T) { // P4.1
	r := rand.New(rand.NewSource(1))
	for kind := range 256 {
		p := someBytes(r, r.Intn(30))
		if b := Pack(byte(kind), p); !bytes.Equal(b, plainFrame(uint32(len(p)), byte(kind), p)) {
			t.Fatalf("Pack(%d, % x): % x", kind, p, b)
		}
	}
	lengths := []int{511, 512, 513, 1024, 65534, 65535, 65536, 65537, 1 << 24}
	for n := range 300 {
		lengths = append(lengths, n)
	}
	for _, n := range lengths {
		p := someBytes(r, n)
		b := Pack(byte(n), p)
		if len(b) != n+9 || !bytes.Equal(b, plainFrame(uint32(n), byte(n), p)) {
			t.Fatalf("Pack of %d bytes: %d bytes that are not the frame", n, len(b))
		}
		unpacks(t, b, byte(n), p, nil)
	}
}

func TestUnpackOfAPlainFrame(t *testing.T) { // P4.2
	r := rand.New(rand.NewSource(2))
	for kind := range 256 {
		p, rest := someBytes(r, r.Intn(100)), someBytes(r, r.Intn(30))
		unpacks(t, join(plainFrame(uint32(len(p)), byte(kind), p), rest), byte(kind), p, rest)
	}
}

func TestLastBytesAreMissing(t *testing.T) { // P4.2
	r := rand.New(rand.NewSource(3))
	for _, n := range []int{0, 1, 2, 3, 4, 5, 64, 300} {
		b := Pack(byte(n), someBytes(r, n))
		for i := range b {
			// Those that are missing stand in the room behind the length: they
			// must not be read there.
			noFrame(t, b[:i], "cut short, with the others in the room behind")
			noFrame(t, bytes.Clone(b[:i:i]), "cut short")
		}
	}
}

// A frame whose sum is right, but whose length tells of more bytes than there
// are, or of fewer, so that the sum would stand elsewhere.
func TestLengthThatIsNotThere(t *testing.T) { // P4.2
	r := rand.New(rand.NewSource(4))
	lengths := []uint32{255, 256, 1<<16 - 1, 1 << 16, 1<<24 - 1, 1 << 24, 1<<31 - 10, 1<<31 - 1, 1 << 31, 1<<31 + 1}
	for i := range uint32(64) {
		lengths = append(lengths, i, math.MaxUint32-i)
	}
	for n := range 40 {
		p := someBytes(r, n)
		for _, length := range lengths {
			if length == uint32(n) {
				continue
			}
			b := plainFrame(length, 5, p)
			if length < uint32(n) { // by chance a sum might stand where the length tells
				summed := 5 + length
				if binary.BigEndian.Uint32(b[summed:]) == crc32.ChecksumIEEE(b[:summed]) {
					continue
				}
			}
			noFrame(t, b, "a length that is not the payload's")
		}
	}
}

func TestShortBytes(t *testing.T) { // P4.2: no frame has less than 9 bytes
	for n := range 9 {
		for _, c := range []byte{0, 1, 0x7f, 0x80, 0xff} {
			noFrame(t, bytes.Repeat([]byte{c}, n), "less than nine bytes of one kind")
		}
	}
	// The sum of no bytes is 0, but that of the head is not.
	noFrame(t, make([]byte, 9), "nine noughts")
	noFrame(t, make([]byte, 100), "a hundred noughts")
}

func TestWrongSums(t *testing.T) { // P4.2
	p := []byte("payload")
	body := plainFrame(uint32(len(p)), 3, p)[:5+len(p)]
	sum := crc32.ChecksumIEEE(body)
	for _, wrong := range []uint32{0, sum + 1, sum - 1, ^sum, sum<<8 | sum>>24, crc32.ChecksumIEEE(p), crc32.ChecksumIEEE(body[4:]), sum ^ 1<<31} {
		noFrame(t, binary.BigEndian.AppendUint32(bytes.Clone(body), wrong), "a wrong sum")
	}
	noFrame(t, binary.LittleEndian.AppendUint32(bytes.Clone(body), sum), "the sum's lowest byte first")
}

func TestFramesInARow(t *testing.T) { // P4.2, P4.5
	r := rand.New(rand.NewSource(5))
	var all []byte
	var payloads [][]byte
	for kind := range 100 {
		payloads = append(payloads, someBytes(r, r.Intn(50)))
		all = append(all, Pack(byte(kind), payloads[kind])...)
	}
	for kind, p := range payloads {
		unpacks(t, all, byte(kind), p, all[9+len(p):])
		_, _, all, _ = Unpack(all)
	}
	if len(all) != 0 {
		t.Errorf("%d bytes are left over", len(all))
	}
}

func TestFrameInAFrame(t *testing.T) { // P4.1, P4.2: a payload may be anything
	b := []byte{}
	for kind := range 50 {
		b = Pack(byte(kind), b)
	}
	for kind := 49; kind >= 0; kind-- {
		k, p, rest, e := Unpack(b)
		if k != byte(kind) || len(p)+9 != len(b) || len(rest) != 0 || e != api.OK {
			t.Fatalf("%d: %d, %d of %d bytes, %v", kind, k, len(p), len(b), e)
		}
		b = p
	}
}

func TestNumberOfEverySize(t *testing.T) { // P4.3
	r := rand.New(rand.NewSource(6))
	for _, n := range edgeNumbers(r) {
		eight := binary.BigEndian.AppendUint64(nil, n)
		for size := 1; size <= 8; size++ {
			for _, ahead := range [][]byte{nil, {}, {9}, someBytes(r, 20)} {
				want := join(ahead, eight[8-size:])
				if b := Number(ahead, n, size); !bytes.Equal(b, want) {
					t.Fatalf("Number(% x, %d, %d): % x, want % x", ahead, n, size, b, want)
				}
			}
		}
	}
}

func TestNumberOfAWrongSize(t *testing.T) { // P4.3
	for _, size := range wrongSizes() {
		for _, ahead := range [][]byte{nil, {}, {9}, []byte("some bytes")} {
			if b := Number(ahead, math.MaxUint64, size); !bytes.Equal(b, ahead) {
				t.Fatalf("Number(% x, ff.., %d): % x", ahead, size, b)
			}
		}
	}
}

func TestTakeOfEverySize(t *testing.T) { // P4.4
	r := rand.New(rand.NewSource(7))
	for range 200 {
		b := someBytes(r, r.Intn(12))
		for size := 1; size <= 8; size++ {
			if len(b) < size {
				refuses(t, b, size, api.ErrFrame)
				continue
			}
			n := uint64(0)
			for i := range size {
				n += uint64(b[i]) << (8 * (size - 1 - i))
			}
			takes(t, b, size, n, b[size:])
		}
	}
	takes(t, bytes.Repeat([]byte{0xff}, 8), 8, math.MaxUint64, nil)
	takes(t, []byte{0x80, 0, 0, 0, 0, 0, 0, 0}, 8, 1<<63, nil)
	takes(t, []byte{0, 0, 0, 5}, 4, 5, nil)
}

func TestTakeIsRefused(t *testing.T) { // P4.4: a wrong size is told ahead of bytes that are missing
	long := bytes.Repeat([]byte{7}, 300)
	for _, size := range wrongSizes() {
		for _, b := range [][]byte{nil, {}, {1}, long[:8], long} {
			refuses(t, b, size, api.ErrArg)
		}
	}
	for size := 1; size <= 8; size++ {
		refuses(t, nil, size, api.ErrFrame)
		refuses(t, []byte{}, size, api.ErrFrame)
		// The missing byte stands in the room behind the length.
		refuses(t, long[:size-1], size, api.ErrFrame)
	}
}

func TestFramesThereAndBack(t *testing.T) { // P4.5
	r := rand.New(rand.NewSource(8))
	for range 500 {
		kind, p, rest := byte(r.Intn(256)), someBytes(r, r.Intn(200)), someBytes(r, r.Intn(40))
		unpacks(t, join(Pack(kind, p), rest), kind, p, rest)
		// What is behind may itself be a frame, or a piece of one.
		rest = Pack(kind, p)
		unpacks(t, join(Pack(kind, p), rest), kind, p, rest)
		unpacks(t, join(Pack(kind, p), rest[:3]), kind, p, rest[:3])
	}
}

func TestWhatIsTakenIsPackedAnew(t *testing.T) { // P4.5
	r := rand.New(rand.NewSource(9))
	taken := 0
	for range 3000 {
		// A short length and a sum that is laid where it tells: some are frames,
		// some are turned elsewhere and are none.
		b := someBytes(r, 9+r.Intn(40))
		n := r.Intn(len(b) - 8)
		binary.BigEndian.PutUint32(b, uint32(n))
		binary.BigEndian.PutUint32(b[5+n:], crc32.ChecksumIEEE(b[:5+n]))
		if r.Intn(3) == 0 {
			b[r.Intn(len(b))] ^= byte(r.Intn(256))
		}
		kind, p, rest, e := Unpack(b)
		if e != api.OK {
			noFrame(t, b, "refused")
			continue
		}
		taken++
		if again := join(Pack(kind, p), rest); !bytes.Equal(again, b) {
			t.Fatalf("% x is taken, but packed anew it is % x", b, again)
		}
	}
	if taken < 1000 {
		t.Errorf("%d were taken only", taken)
	}
}

func TestNumbersThereAndBack(t *testing.T) { // P4.5
	r := rand.New(rand.NewSource(10))
	for _, n := range edgeNumbers(r) {
		for size := 1; size <= 8; size++ {
			rest := someBytes(r, r.Intn(10))
			takes(t, join(Number(nil, n, size), rest), size, lowest(n, size), rest)
			b := Number(Number(nil, n, size), ^n, 8)
			takes(t, b, size, lowest(n, size), b[size:])
			takes(t, b[size:], 8, ^n, nil)
		}
	}
}

func TestOneByteTurned(t *testing.T) { // P4.6
	r := rand.New(rand.NewSource(11))
	for _, n := range []int{0, 1, 2, 3, 4, 5, 8, 64, 100} {
		for _, p := range [][]byte{make([]byte, n), bytes.Repeat([]byte{0xff}, n), someBytes(r, n)} {
			b := join(Pack(byte(n), p), someBytes(r, 3))
			for i := 4; i < n+9; i++ {
				for by := 1; by < 256; by++ {
					b[i] ^= byte(by)
					noFrame(t, b, "a byte turned")
					b[i] ^= byte(by)
				}
			}
			unpacks(t, b, byte(n), p, b[n+9:])
		}
	}
}

func TestOneByteTurnedInALongFrame(t *testing.T) { // P4.6
	r := rand.New(rand.NewSource(12))
	b := Pack(1, someBytes(r, 1<<16))
	for _, i := range []int{4, 5, 6, 1 << 15, len(b) - 6, len(b) - 5, len(b) - 4, len(b) - 3, len(b) - 2, len(b) - 1} {
		by := byte(1 + r.Intn(255))
		b[i] ^= by
		noFrame(t, b, "a byte turned")
		b[i] ^= by
	}
}

// spoil fills all of a list with a byte, the room behind its length too.
func spoil(b []byte, with byte) {
	b = b[:cap(b)]
	for i := range b {
		b[i] = with
	}
}

func TestArgumentsAreLeftAlone(t *testing.T) { // R6
	room := append(Pack(7, []byte("payload")), "rest, and the room behind it"...)
	before := bytes.Clone(room)
	b := room[:20]
	for _, f := range []func(){
		func() { Pack(7, b) },
		func() { Unpack(b) },
		func() { Unpack(b[:7]) },
		func() { Take(b, 3) },
		func() { Take(b, 0) },
	} {
		f()
		if !bytes.Equal(room, before) {
			t.Fatalf("what was handed in is changed: %q", room)
		}
	}
	for size := -1; size <= 9; size++ {
		Number(b, math.MaxUint64, size)
		Number(room[:0], math.MaxUint64, size)
		if !bytes.Equal(room, before) {
			t.Fatalf("Number of size %d changes the room behind the length: %q", size, room)
		}
	}
}

func TestAnswersAreTheCallersOwn(t *testing.T) { // R6
	r := rand.New(rand.NewSource(13))
	p, rest := someBytes(r, 20), someBytes(r, 20)
	b := join(Pack(7, p), rest)
	before := bytes.Clone(b)
	_, p1, rest1, _ := Unpack(b)
	_, rest2, _ := Take(b, 4)
	lists := [][]byte{p1, rest1, rest2, Pack(8, b)}
	for size := -1; size <= 9; size++ {
		lists = append(lists, Number(b, 1, size), Number(b[:0], 1, size))
	}
	for i, l := range lists {
		spoil(l, byte(100+i))
	}
	if !bytes.Equal(b, before) {
		t.Error("an answer shares memory with what was handed in")
	}
	for i, l := range lists {
		for _, c := range l[:cap(l)] {
			if c != byte(100+i) {
				t.Fatalf("answer %d shares memory with another one", i)
			}
		}
	}
}

func TestWhatIsHandedInIsNotKept(t *testing.T) { // R6
	r := rand.New(rand.NewSource(14))
	p, rest := someBytes(r, 20), someBytes(r, 20)
	b := join(Pack(7, p), rest)
	before := bytes.Clone(b)
	_, p1, rest1, _ := Unpack(b)
	_, rest2, _ := Take(b, 4)
	packed, same, longer := Pack(8, b), Number(b, 1, 0), Number(b, 1, 2)
	spoil(b, 0)
	if !bytes.Equal(p1, p) || !bytes.Equal(rest1, rest) {
		t.Error("Unpack: the answer changed with what was handed in")
	}
	if !bytes.Equal(rest2, before[4:]) {
		t.Error("Take: the answer changed with what was handed in")
	}
	if !bytes.Equal(packed, plainFrame(uint32(len(before)), 8, before)) {
		t.Error("Pack: the answer changed with what was handed in")
	}
	if !bytes.Equal(same, before) || !bytes.Equal(longer, append(before, 0, 1)) {
		t.Error("Number: the answer changed with what was handed in")
	}
}
