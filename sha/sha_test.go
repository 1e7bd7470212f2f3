package sha

import (
	"bytes"
	"crypto/sha256"
	"encoding/binary"
	"encoding/hex"
	"math/big"
	"math/rand"
	"slices"
	"testing"

	"muniment/api"
)

// edges are the lengths at which the text gets a piece more, and their
// neighbours.
var edges = []int{0, 1, 54, 55, 56, 57, 62, 63, 64, 65, 118, 119, 120, 121, 127, 128, 129, 183, 184, 191, 192, 193}

func someBytes(r *rand.Rand, n int) []byte {
	b := make([]byte, n)
	r.Read(b)
	return b
}

func want(b []byte) api.Hash { return api.Hash(sha256.Sum256(b)) }

// check holds a value that was told of b against the library's.
func check(t *testing.T, what string, b []byte, got api.Hash) {
	t.Helper()
	if got != want(b) {
		t.Fatalf("%s: %x, want %x", what, got, want(b))
	}
}

func TestExamples(t *testing.T) { // P2.1, P2.2
	for _, x := range []struct {
		b    []byte
		want string
	}{
		{nil, "e3b0c44298fc1c149afbf4c8996fb92427ae41e4649b934ca495991b7852b855"},
		{[]byte{}, "e3b0c44298fc1c149afbf4c8996fb92427ae41e4649b934ca495991b7852b855"},
		{[]byte("abc"), "ba7816bf8f01cfea414140de5dae2223b00361a396177a9cb410ff61f20015ad"},
		{bytes.Repeat([]byte("a"), 64), "ffe054fe7ae0cb6dc65c3af9b61d5209f439851db43d0ba5997337df154668eb"},
		{[]byte("abcdbcdecdefdefgefghfghighijhijkijkljklmklmnlmnomnopnopq"), "248d6a61d20638b8e5c026930c3e6039a33ce45964ff2167f6ecedd419db06c1"},
		{bytes.Repeat([]byte("a"), 1000000), "cdc76e5c9914fb9281a1c7e284d73e67f1809a48a497200e046d39ccc7112cd0"},
	} {
		h := Sum(x.b)
		if got := hex.EncodeToString(h[:]); got != x.want {
			t.Errorf("Sum of %d bytes: %s, want %s", len(x.b), got, x.want)
		}
		s := New()
		s.Write(x.b)
		if s.Sum() != h {
			t.Errorf("the State's Sum of %d bytes: %x, want %s", len(x.b), s.Sum(), x.want)
		}
	}
}

// firstBits are the first 32 bits behind the point of the root of p, of the
// second or of the third degree: found by halving, for no library takes cube
// roots of whole numbers.
func firstBits(p int64, degree int64) uint32 {
	limit := new(big.Int).Lsh(big.NewInt(p), uint(32*degree))
	low, high := big.NewInt(0), new(big.Int).Lsh(big.NewInt(p), 32)
	for {
		middle := new(big.Int).Add(low, high)
		middle.Rsh(middle.Add(middle, big.NewInt(1)), 1)
		if middle.Cmp(low) == 0 {
			return uint32(low.Uint64())
		}
		if new(big.Int).Exp(middle, big.NewInt(degree), nil).Cmp(limit) <= 0 {
			low = middle
		} else {
			high = middle.Sub(middle, big.NewInt(1))
		}
	}
}

func TestTablesFollowFromThePrimes(t *testing.T) { // P2.1
	n := 0
	for p := int64(2); n < len(constants); p++ {
		if !big.NewInt(p).ProbablyPrime(20) {
			continue
		}
		if k := firstBits(p, 3); constants[n] != k {
			t.Errorf("K(%d): %08x, want %08x", n, constants[n], k)
		}
		if n < len(start) {
			if h := firstBits(p, 2); start[n] != h {
				t.Errorf("H(%d): %08x, want %08x", n, start[n], h)
			}
		}
		n++
	}
}

func TestSumAtEveryLength(t *testing.T) { // P2.1
	r := rand.New(rand.NewSource(1))
	for n := range 400 {
		for _, b := range [][]byte{make([]byte, n), bytes.Repeat([]byte{0xff}, n), bytes.Repeat([]byte{0x80}, n), someBytes(r, n)} {
			check(t, "Sum", b, Sum(b))
		}
	}
	for _, n := range []int{511, 512, 513, 4095, 4096, 4097, 1<<16 - 9, 1 << 16, 1<<20 + 3} {
		b := someBytes(r, n)
		check(t, "Sum", b, Sum(b))
	}
}

func TestEveryByteCounts(t *testing.T) { // P2.1
	r := rand.New(rand.NewSource(2))
	for _, n := range edges {
		b := someBytes(r, n)
		h := Sum(b)
		for at := range 8 * n {
			b[at/8] ^= 1 << (at % 8)
			if got := Sum(b); got == h || got != want(b) {
				t.Fatalf("%d bytes, bit %d turned: %x", n, at, got)
			}
			b[at/8] ^= 1 << (at % 8)
		}
	}
}

func TestNewHasTakenNothing(t *testing.T) { // P2.2
	s := New()
	check(t, "New", nil, s.Sum())
	s.Write(nil)
	s.Write([]byte{})
	check(t, "nothing written", nil, s.Sum())
	s.Write([]byte("abc"))
	check(t, "written behind nothing", []byte("abc"), s.Sum())
	check(t, "another New", nil, New().Sum())
}

func TestCutAtEveryPlace(t *testing.T) { // P2.3
	r := rand.New(rand.NewSource(3))
	for _, n := range edges {
		b := someBytes(r, n)
		for i := range n + 1 {
			s := New()
			s.Write(b[:i])
			s.Write(b[i:])
			check(t, "cut in two", b, s.Sum())
		}
	}
}

func TestCutTwice(t *testing.T) { // P2.3
	b := someBytes(rand.New(rand.NewSource(4)), 193)
	for _, i := range edges {
		for _, j := range edges {
			if i > j {
				continue
			}
			s := New()
			s.Write(b[:i])
			s.Write(nil)
			s.Write(b[i:j])
			s.Write(b[j:j])
			s.Write(b[j:])
			check(t, "cut in three", b, s.Sum())
		}
	}
}

func TestPiecesOfOneLength(t *testing.T) { // P2.3
	b := someBytes(rand.New(rand.NewSource(5)), 700)
	for n := 1; n <= 200; n++ {
		s := New()
		for piece := range slices.Chunk(b, n) {
			s.Write(piece)
		}
		check(t, "pieces of one length", b, s.Sum())
	}
}

func TestPiecesOfAnyLength(t *testing.T) { // P2.2, P2.3: with Sum asked between
	r := rand.New(rand.NewSource(6))
	for range 500 {
		s := New()
		var all []byte
		for range r.Intn(12) {
			b := someBytes(r, max(0, r.Intn(150)-20))
			if r.Intn(4) == 0 {
				b = someBytes(r, edges[r.Intn(len(edges))])
			}
			s.Write(b)
			all = append(all, b...)
			if r.Intn(2) == 0 {
				check(t, "between two pieces", all, s.Sum())
			}
		}
		check(t, "behind all pieces", all, s.Sum())
	}
}

func TestSumIsAskedAtEveryByte(t *testing.T) { // P2.2
	b := someBytes(rand.New(rand.NewSource(7)), 260)
	s := New()
	for i := range b {
		check(t, "asked", b[:i], s.Sum())
		check(t, "asked twice", b[:i], s.Sum())
		s.Write(b[i : i+1])
	}
	check(t, "asked at the end", b, s.Sum())
}

func TestSumChangesNothing(t *testing.T) { // P2.2
	r := rand.New(rand.NewSource(8))
	for _, n := range edges {
		for _, m := range edges {
			b := someBytes(r, n+m)
			s := New()
			s.Write(b[:n])
			check(t, "the first Sum", b[:n], s.Sum())
			check(t, "the second Sum", b[:n], s.Sum())
			s.Write(b[n:])
			check(t, "the Sum of both", b, s.Sum())
		}
	}
}

func TestValueIsTheCallersOwn(t *testing.T) { // R6
	s := New()
	s.Write([]byte("abc"))
	h := s.Sum()
	clear(h[:])
	check(t, "behind a value that was cleared", []byte("abc"), s.Sum())
}

func TestWrittenOverBehindWrite(t *testing.T) { // P2.2, R6
	r := rand.New(rand.NewSource(9))
	for _, n := range edges {
		for _, m := range edges {
			all := someBytes(r, n+m)
			room := make([]byte, 200)
			s := New()
			for _, part := range [][]byte{all[:n], all[n:]} {
				copy(room, part)
				s.Write(room[:len(part)])
				r.Read(room)
			}
			check(t, "written over", all, s.Sum())
		}
	}
}

func TestArgumentsAreLeftAlone(t *testing.T) { // R6
	r := rand.New(rand.NewSource(10))
	for _, n := range edges {
		room := someBytes(r, n+150)
		before := bytes.Clone(room)
		s := New()
		s.Write(room[:n])
		check(t, "State", before[:n], s.Sum())
		check(t, "Sum", before[:n], Sum(room[:n]))
		if !bytes.Equal(room, before) {
			t.Fatalf("%d bytes, or what is behind them, were changed", n)
		}
		r.Read(room[n:])
		check(t, "other bytes behind the length", before[:n], Sum(room[:n]))
	}
}

func TestTwoStatesInTurns(t *testing.T) { // P2.3
	r := rand.New(rand.NewSource(11))
	for range 200 {
		states := [3]*State{New(), New()}
		var texts [3][]byte
		for turn := range 20 {
			i := turn % 2
			b := someBytes(r, r.Intn(100))
			states[i].Write(b)
			texts[i] = append(texts[i], b...)
			if r.Intn(3) == 0 {
				check(t, "the other one", texts[1-i], states[1-i].Sum())
			}
			if turn == 10 {
				states[2] = New()
			}
		}
		for i, s := range states {
			check(t, "in turns", texts[i], s.Sum())
		}
	}
}

func TestTwoStatesGoApart(t *testing.T) { // P2.3
	r := rand.New(rand.NewSource(12))
	for _, n := range edges {
		b := someBytes(r, n)
		one, other := New(), New()
		one.Write(b)
		other.Write(b)
		one.Write([]byte("x"))
		check(t, "the one", append(bytes.Clone(b), 'x'), one.Sum())
		check(t, "the other one", b, other.Sum())
		other.Write([]byte("yz"))
		check(t, "the one, later", append(bytes.Clone(b), 'x'), one.Sum())
		check(t, "the other one, later", append(bytes.Clone(b), "yz"...), other.Sum())
		check(t, "Sum between them", b, Sum(b))
	}
}

// The number of bits has eight bytes. A State that took so many bytes is made
// by hand: to write 2^32 bits takes seconds. What its end is, is told by the
// words of the chapter.
func TestManyBits(t *testing.T) { // P2.1, P2.2
	for _, taken := range []uint64{0, 31, 32, 1<<13 - 1, 1 << 13, 1<<29 - 64, 1<<29 - 1, 1 << 29, 1<<31 - 1, 1 << 31, 1<<32 + 55, 1<<53 + 56} {
		rest := bytes.Repeat([]byte{0xa5}, int(taken%64))
		s := &State{words: start, taken: taken - taken%64}
		s.Write(rest)
		text := append(bytes.Clone(rest), 0x80)
		for len(text)%64 != 56 {
			text = append(text, 0)
		}
		text = binary.BigEndian.AppendUint64(text, 8*taken)
		plain := &State{words: start}
		plain.Write(text)
		var want api.Hash
		for i, w := range plain.words {
			binary.BigEndian.PutUint32(want[4*i:], w)
		}
		if got := s.Sum(); got != want {
			t.Errorf("%d bytes: %x, want %x", taken, got, want)
		}
	}
}
