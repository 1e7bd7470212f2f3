package crc

import (
	"bytes"
	"hash/crc32"
	"math/rand"
	"testing"
)

const polynomial = 0xedb88320

// plainRegister goes on from the register r, bit by bit, as P1.1 is written.
func plainRegister(r uint32, b []byte) uint32 {
	for _, c := range b {
		r ^= uint32(c)
		for range 8 {
			if r&1 == 1 {
				r = r>>1 ^ polynomial
			} else {
				r >>= 1
			}
		}
	}
	return r
}

func plainSum(b []byte) uint32 { return ^plainRegister(0xffffffff, b) }

// bytesOfSum finds the four bytes whose sum is the number given: the shifts are
// gone back from the end, and what is missing at the beginning is the bytes.
func bytesOfSum(sum uint32) []byte {
	r := ^sum
	for range 32 {
		if r>>31 == 1 {
			r = (r^polynomial)<<1 | 1
		} else {
			r <<= 1
		}
	}
	r ^= 0xffffffff
	return []byte{byte(r), byte(r >> 8), byte(r >> 16), byte(r >> 24)}
}

func join(parts ...[]byte) []byte { return bytes.Join(parts, nil) }

func someBytes(r *rand.Rand, n int) []byte {
	b := make([]byte, n)
	r.Read(b)
	return b
}

// edgeSums are sums that lie at the edges of the numbers; the tests add others.
func edgeSums(r *rand.Rand) []uint32 {
	sums := []uint32{0, 1, 2, 0x7fffffff, 0x80000000, 0xfffffffe, 0xffffffff,
		polynomial, 0xcbf43926, 0xd202ef8d, 0x41d912ff, 0xdeadbeef}
	for i := range 32 {
		sums = append(sums, 1<<i, ^uint32(1<<i))
	}
	for range 200 {
		sums = append(sums, r.Uint32())
	}
	return sums
}

// turn gives b with the bits of pattern turned, the pattern's lowest bit at the
// place at; places are counted with the lowest bit of each byte first.
func turn(b []byte, at int, pattern uint32) []byte {
	c := bytes.Clone(b)
	for i := range 32 {
		if pattern>>i&1 == 1 {
			c[(at+i)/8] ^= 1 << ((at + i) % 8)
		}
	}
	return c
}

func TestExamples(t *testing.T) {
	for _, x := range []struct {
		b    []byte
		want uint32
	}{
		{nil, 0},
		{[]byte{}, 0},
		{[]byte("123456789"), 0xcbf43926},
		{[]byte{0}, 0xd202ef8d},
		{[]byte{0, 0}, 0x41d912ff},
	} {
		if s := Sum(x.b); s != x.want {
			t.Errorf("Sum(% x): %08x, want %08x", x.b, s, x.want)
		}
	}
	for _, b := range [][]byte{nil, {}} {
		if s := More(0xcbf43926, b); s != 0xcbf43926 {
			t.Errorf("More(cbf43926, none): %08x", s)
		}
	}
}

func TestTableFollowsFromThePolynomial(t *testing.T) {
	for i := range uint32(16) {
		r := i
		for range 4 {
			r = r>>1 ^ r&1*polynomial
		}
		if halves[i] != r {
			t.Errorf("halves[%d]: %08x, want %08x", i, halves[i], r)
		}
	}
}

func TestSumIsAsWritten(t *testing.T) { // P1.1
	r := rand.New(rand.NewSource(1))
	var all [][]byte
	for i := range 256 {
		all = append(all, []byte{byte(i)}, []byte{0, byte(i)}, []byte{byte(i), 0xff})
	}
	for n := range 300 {
		all = append(all, someBytes(r, n), make([]byte, n), bytes.Repeat([]byte{0xff}, n))
	}
	all = append(all, someBytes(r, 1<<20))
	for _, b := range all {
		s := Sum(b)
		if want := plainSum(b); s != want {
			t.Fatalf("Sum of %d bytes: %08x, by P1.1 %08x", len(b), s, want)
		}
		if want := crc32.ChecksumIEEE(b); s != want {
			t.Fatalf("Sum of %d bytes: %08x, by IEEE 802.3 %08x", len(b), s, want)
		}
	}
}

func TestMoreGoesOnFromAnySum(t *testing.T) { // P1.2
	r := rand.New(rand.NewSource(2))
	for _, sum := range edgeSums(r) {
		a := bytesOfSum(sum)
		if s := plainSum(a); s != sum {
			t.Fatalf("the test's own bytes % x have the sum %08x, not %08x", a, s, sum)
		}
		for _, n := range []int{0, 1, 2, 3, 4, 5, 8, 31, 64, 100} {
			b := someBytes(r, n)
			s := More(sum, b)
			if want := Sum(join(a, b)); s != want {
				t.Fatalf("More(%08x, % x): %08x, want %08x", sum, b, s, want)
			}
			if want := ^plainRegister(^sum, b); s != want {
				t.Fatalf("More(%08x, % x): %08x, bit by bit %08x", sum, b, s, want)
			}
		}
	}
}

func TestMoreAsksTheSumAlone(t *testing.T) { // P1.2: bytes of one sum go on alike
	r := rand.New(rand.NewSource(3))
	for range 100 {
		long := someBytes(r, 5+r.Intn(60))
		short := bytesOfSum(Sum(long))
		b := someBytes(r, r.Intn(40))
		s := More(Sum(short), b)
		if s != Sum(join(short, b)) || s != Sum(join(long, b)) {
			t.Fatalf("% x and % x have one sum, but not with % x behind them", long, short, b)
		}
	}
}

func TestNothing(t *testing.T) { // P1.3
	if s := Sum(nil); s != 0 {
		t.Errorf("Sum(nil): %08x", s)
	}
	if s := Sum([]byte{}); s != 0 {
		t.Errorf("Sum of no bytes: %08x", s)
	}
	for _, sum := range edgeSums(rand.New(rand.NewSource(4))) {
		if s := More(sum, nil); s != sum {
			t.Errorf("More(%08x, nil): %08x", sum, s)
		}
		if s := More(sum, []byte{}); s != sum {
			t.Errorf("More(%08x, no bytes): %08x", sum, s)
		}
	}
}

func TestMoreOfZeroIsSum(t *testing.T) { // P1.3
	r := rand.New(rand.NewSource(5))
	for n := range 200 {
		b := someBytes(r, n)
		if m, s := More(0, b), Sum(b); m != s {
			t.Fatalf("More(0, % x): %08x, but the sum is %08x", b, m, s)
		}
	}
}

func TestCutAtEveryPlace(t *testing.T) { // P1.3
	r := rand.New(rand.NewSource(6))
	for _, n := range []int{0, 1, 2, 3, 7, 8, 9, 33, 64, 129} {
		b := someBytes(r, n)
		for _, sum := range append(edgeSums(r)[:12], r.Uint32()) {
			whole := More(sum, b)
			for i := range n + 1 {
				if s := More(More(sum, b[:i]), b[i:]); s != whole {
					t.Fatalf("%d bytes cut at %d, from %08x: %08x, whole %08x", n, i, sum, s, whole)
				}
			}
			s := sum
			for i := range b {
				s = More(s, b[i:i+1])
			}
			if s != whole {
				t.Fatalf("%d bytes one by one, from %08x: %08x, whole %08x", n, sum, s, whole)
			}
		}
	}
}

func TestOneBitTurned(t *testing.T) { // P1.4
	r := rand.New(rand.NewSource(7))
	for _, n := range []int{1, 2, 3, 4, 5, 9, 64, 65, 500, 512} {
		for _, b := range [][]byte{make([]byte, n), someBytes(r, n)} {
			s := Sum(b)
			for at := range 8 * n {
				if Sum(turn(b, at, 1)) == s {
					t.Fatalf("%d bytes, bit %d turned: the sum stays %08x", n, at, s)
				}
			}
		}
	}
}

func TestOneBitTurnedInLongBytes(t *testing.T) { // P1.4
	r := rand.New(rand.NewSource(8))
	b := someBytes(r, 1<<16)
	s := Sum(b)
	for range 50 {
		at := r.Intn(8 * len(b))
		if Sum(turn(b, at, 1)) == s {
			t.Fatalf("bit %d turned: the sum stays %08x", at, s)
		}
	}
}

// A pattern of n bits has its first and its last bit turned; those between are
// all tried while they are few, and drawn else.
func TestBitsSideBySideTurned(t *testing.T) { // P1.4
	r := rand.New(rand.NewSource(9))
	b := someBytes(r, 12)
	s := Sum(b)
	for width := 2; width <= 32; width++ {
		ends := uint32(1) | 1<<(width-1)
		full := uint32(1<<width - 1)
		patterns := []uint32{ends, full}
		if width <= 10 {
			for p := range uint32(1) << (width - 2) {
				patterns = append(patterns, ends|p<<1)
			}
		} else {
			for range 200 {
				patterns = append(patterns, ends|r.Uint32()&full)
			}
		}
		for at := range 8*len(b) - width + 1 {
			for _, p := range patterns {
				if Sum(turn(b, at, p)) == s {
					t.Fatalf("bits %0*b turned at %d: the sum stays %08x", width, p, at, s)
				}
			}
		}
	}
}

// All 32 bits of four bytes: two different ones never share a sum, since the
// sum alone gives the bytes back.
func TestFourBytesAreGivenBackByTheirSum(t *testing.T) { // P1.4
	r := rand.New(rand.NewSource(10))
	for range 2000 {
		a := someBytes(r, 4)
		if got := bytesOfSum(Sum(a)); !bytes.Equal(got, a) {
			t.Fatalf("% x: the sum gives % x back", a, got)
		}
	}
}

// 33 bits side by side may leave the sum: the polynomial itself, turned in, does.
// So the 32 of P1.4 are the utmost, and its order of bits is the one tested here.
func TestPolynomialTurnedLeavesTheSum(t *testing.T) {
	b := someBytes(rand.New(rand.NewSource(11)), 12)
	s := Sum(b)
	for at := range 8*len(b) - 32 {
		c := turn(b, at, 1)
		c = turn(c, at+1, polynomial)
		if Sum(c) != s {
			t.Fatalf("the polynomial turned at %d: the sum is %08x, not %08x", at, Sum(c), s)
		}
	}
}

func TestArgumentsAreLeftAlone(t *testing.T) { // R6
	room := []byte("123456789 and what is behind it")
	before := bytes.Clone(room)
	b := room[:9]
	if s := Sum(b); s != 0xcbf43926 {
		t.Errorf("Sum reads behind the length: %08x", s)
	}
	if s := More(0, b); s != 0xcbf43926 {
		t.Errorf("More reads behind the length: %08x", s)
	}
	if !bytes.Equal(room, before) {
		t.Errorf("the bytes were changed: %q", room)
	}
	room[9] = 'x'
	if s := Sum(b); s != 0xcbf43926 {
		t.Errorf("Sum hangs on bytes behind the length: %08x", s)
	}
}
