package chunk

import (
	"bytes"
	"crypto/sha256"
	"encoding/hex"
	"math"
	"math/rand"
	"slices"
	"testing"

	"muniment/api"
	"muniment/tree"
	"muniment/verify"
)

// plainSplit takes byte by byte, and begins a chunk where the last one is full.
func plainSplit(b []byte) [][]byte {
	var chunks [][]byte
	for i, c := range b {
		if i%64 == 0 {
			chunks = append(chunks, nil)
		}
		chunks[len(chunks)-1] = append(chunks[len(chunks)-1], c)
	}
	return chunks
}

// plainRoot is the library's hash of all bytes laid together, chunk by chunk and
// pair by pair, as RFC 6962 has it.
func plainRoot(chunks [][]byte) api.Hash {
	switch len(chunks) {
	case 0:
		return sha256.Sum256(nil)
	case 1:
		return sha256.Sum256(append([]byte{0}, chunks[0]...))
	}
	k := half(len(chunks))
	l, r := plainRoot(chunks[:k]), plainRoot(chunks[k:])
	return sha256.Sum256(bytes.Join([][]byte{{1}, l[:], r[:]}, nil))
}

// plainProof is of a chunk that is there: the roots beside it, from below up.
func plainProof(chunks [][]byte, i int) []api.Hash {
	if len(chunks) == 1 {
		return nil
	}
	k := half(len(chunks))
	if i < k {
		return append(plainProof(chunks[:k], i), plainRoot(chunks[k:]))
	}
	return append(plainProof(chunks[k:], i-k), plainRoot(chunks[:k]))
}

// half is the greatest power of two below n, which is two or more.
func half(n int) int {
	k := 1
	for 2*k < n {
		k *= 2
	}
	return k
}

func someBytes(r *rand.Rand, n int) []byte {
	b := make([]byte, n)
	r.Read(b)
	return b
}

// someLengths are all up to some chunks, and those around great numbers of them.
func someLengths() []int {
	var lengths []int
	for n := range 64*9 + 3 {
		lengths = append(lengths, n)
	}
	for _, k := range []int{15, 16, 17, 31, 32, 33, 100, 128} {
		lengths = append(lengths, 64*k-1, 64*k, 64*k+1, 64*k+30)
	}
	return lengths
}

// edgeLengths are those at which a chunk begins or ends, with one to nine chunks.
func edgeLengths() []int {
	lengths := []int{1, 2, 63, 64, 65, 66, 100, 127, 128, 129, 130}
	for k := 3; k < 10; k++ {
		lengths = append(lengths, 64*k-1, 64*k, 64*k+1)
	}
	return lengths
}

// farLengths are greater than any bytes can be.
func farLengths() []int {
	return []int{
		math.MaxInt, math.MaxInt - 1, math.MaxInt - 62, math.MaxInt - 63, math.MaxInt - 64, math.MaxInt / 3,
		1 << 62, 1<<62 + 1, 1<<62 - 1, 1<<62 + 64, 1<<62 + 65, 1 << 40, 1<<40 + 1, 1<<32 - 1, 1 << 32, 1<<32 + 1, 1<<31 - 1, 1 << 31,
	}
}

// noNumbers are numbers that no chunk of few has.
func noNumbers() []int {
	return []int{-1, -2, -3, -64, math.MinInt, math.MinInt + 1, math.MinInt / 64, math.MinInt32, 200, 256, 1 << 32, 1 << 57, 1 << 58, 1 << 62, math.MaxInt / 64, math.MaxInt - 1, math.MaxInt}
}

// proved is the proof of a chunk that is there.
func proved(t *testing.T, b []byte, i int) []api.Hash {
	t.Helper()
	p, e := Proof(b, i)
	if e != api.OK {
		t.Fatalf("Proof of %d bytes, %d: %v", len(b), i, e)
	}
	return p
}

// refused fails, if Proof is not ErrTree, or tells anything beside it.
func refused(t *testing.T, b []byte, i int) {
	t.Helper()
	if p, e := Proof(b, i); e != api.ErrTree || len(p) != 0 {
		t.Fatalf("Proof of %d bytes, %d: %d hashes, %v", len(b), i, len(p), e)
	}
}

func checked(t *testing.T, want bool, c []byte, i, length int, proof []api.Hash, root api.Hash) {
	t.Helper()
	if told := Check(c, i, length, proof, root); told != want {
		t.Fatalf("Check(%x, %d, %d, %x, %x): %v", c, i, length, proof, root, told)
	}
}

// turned is a hash with one bit turned.
func turned(h api.Hash, bit int) api.Hash {
	h[bit/8] ^= 1 << (bit % 8)
	return h
}

// turnedByte is bytes with one bit turned.
func turnedByte(b []byte, at, bit int) []byte {
	b = bytes.Clone(b)
	b[at] ^= 1 << bit
	return b
}

func TestExamples(t *testing.T) { // P7.1, P7.2
	b := someBytes(rand.New(rand.NewSource(1)), 130)
	l := Split(b)
	if len(l) != 3 || !bytes.Equal(l[0], b[:64]) || !bytes.Equal(l[1], b[64:128]) || !bytes.Equal(l[2], b[128:]) {
		t.Errorf("Split of 130 bytes: %x", l)
	}
	for _, none := range [][]byte{nil, {}, make([]byte, 0, 100)} {
		if Root(none) != tree.Root(nil) || Root(none) != sha256.Sum256(nil) {
			t.Errorf("Root of none: %x", Root(none))
		}
	}
	if Root([]byte{0x61}) != tree.Leaf([]byte{0x61}) {
		t.Errorf("Root of 61: %x", Root([]byte{0x61}))
	}
	refused(t, b, 3)
	refused(t, b, -1)
}

func TestSplitOfEveryLength(t *testing.T) { // P7.1
	r := rand.New(rand.NewSource(2))
	for _, n := range append(someLengths(), 1<<20-1, 1<<20, 1<<20+1) {
		b := someBytes(r, n)
		l := Split(b)
		if !slices.EqualFunc(l, plainSplit(b), bytes.Equal) {
			t.Fatalf("Split of %d bytes: %d chunks that are others", n, len(l))
		}
		if len(l) != (n+63)/64 || !bytes.Equal(bytes.Join(l, nil), b) {
			t.Fatalf("Split of %d bytes: %d chunks", n, len(l))
		}
		for i, c := range l {
			if len(c) == 0 || len(c) > 64 || len(c) < 64 && i < len(l)-1 {
				t.Fatalf("Split of %d bytes: chunk %d has %d", n, i, len(c))
			}
		}
	}
}

func TestSplitOfFew(t *testing.T) { // P7.1
	for _, x := range []struct {
		length int
		sizes  []int
	}{
		{0, nil}, {1, []int{1}}, {63, []int{63}}, {64, []int{64}}, {65, []int{64, 1}},
		{127, []int{64, 63}}, {128, []int{64, 64}}, {129, []int{64, 64, 1}},
	} {
		var sizes []int
		for _, c := range Split(make([]byte, x.length)) {
			sizes = append(sizes, len(c))
		}
		if !slices.Equal(sizes, x.sizes) {
			t.Errorf("Split of %d bytes: %d, want %d", x.length, sizes, x.sizes)
		}
	}
	for _, none := range [][]byte{nil, {}, make([]byte, 0, 100)} {
		if l := Split(none); len(l) != 0 {
			t.Errorf("Split of none: %d chunks", len(l))
		}
	}
}

func TestRootOfEveryLength(t *testing.T) { // P7.1
	r := rand.New(rand.NewSource(3))
	for _, n := range someLengths() {
		for _, b := range [][]byte{someBytes(r, n), make([]byte, n), bytes.Repeat([]byte{0xff}, n)} {
			if Root(b) != plainRoot(plainSplit(b)) {
				t.Fatalf("Root of %d bytes: %x", n, Root(b))
			}
		}
	}
}

func TestRootIsOfTheChunks(t *testing.T) { // P7.1
	r := rand.New(rand.NewSource(4))
	for _, n := range append(edgeLengths(), 0, 1<<16+1) {
		b := someBytes(r, n)
		var l []api.Hash
		for _, c := range Split(b) {
			l = append(l, tree.Leaf(c))
		}
		if Root(b) != tree.Root(l) {
			t.Fatalf("Root of %d bytes: %x", n, Root(b))
		}
	}
}

// Of the bytes 0, 1, 2 and so on; the roots were worked out by another program.
func TestRootsOfKnownBytes(t *testing.T) { // P7.1
	for _, x := range []struct {
		length int
		want   string
	}{
		{0, "e3b0c44298fc1c149afbf4c8996fb92427ae41e4649b934ca495991b7852b855"},
		{1, "96a296d224f285c67bee93c30f8a309157f0daa35dc5b87e410b78630a09cfc7"},
		{64, "e4fb1329f08b46df92906ff0be9b7ab12c44eabd3eb8651e69edb27bd8a19e95"},
		{65, "8c2cc4dea31071a06555f4c82fec830215922a6c8fc851c1dd69b5a3129637d7"},
		{130, "2289862117c0f57ec209d8ee64e2cc310816c90503e751265c29a2eb9cd05e7a"},
		{512, "2c360ccd0c9e007bec7e09c6c947d893938cc0135377b3314f1543cd500f77fd"},
	} {
		b := make([]byte, x.length)
		for i := range b {
			b[i] = byte(i)
		}
		if root := Root(b); hex.EncodeToString(root[:]) != x.want {
			t.Errorf("Root of %d bytes: %x, want %s", x.length, root, x.want)
		}
	}
}

func TestProofOfEveryChunk(t *testing.T) { // P7.2
	r := rand.New(rand.NewSource(5))
	for _, n := range someLengths() {
		b := someBytes(r, n)
		chunks := plainSplit(b)
		var l []api.Hash
		for _, c := range chunks {
			l = append(l, tree.Leaf(c))
		}
		for i := range chunks {
			if i > 8 && i < len(chunks)-2 {
				continue
			}
			p := proved(t, b, i)
			want, _ := tree.Inclusion(l, i)
			if !slices.Equal(p, want) || !slices.Equal(p, plainProof(chunks, i)) {
				t.Fatalf("Proof of %d bytes, %d: %x", n, i, p)
			}
		}
	}
}

func TestProofOfNoChunk(t *testing.T) { // P7.2
	r := rand.New(rand.NewSource(6))
	for _, n := range append(edgeLengths(), 0, 1000) {
		b := someBytes(r, n)
		count := (n + 63) / 64
		for _, i := range append(noNumbers(), count, count+1, count+2, n+1, -count, -count-1, count+1<<32, count-1+math.MinInt) {
			if i < 0 || i >= count {
				refused(t, b, i)
			}
		}
	}
	for _, none := range [][]byte{nil, {}, make([]byte, 0, 100)} {
		for _, i := range append(noNumbers(), 0, 1, 2) {
			refused(t, none, i)
		}
	}
}

func TestProvedChunksAreHeld(t *testing.T) { // P7.3, P7.4
	r := rand.New(rand.NewSource(7))
	for _, n := range someLengths() {
		for _, b := range [][]byte{someBytes(r, n), make([]byte, n)} {
			root := Root(b)
			for i, c := range Split(b) {
				if i < 9 || i > len(b)/64-2 {
					checked(t, true, c, i, n, proved(t, b, i), root)
				}
			}
		}
	}
}

// farProof makes up a proof of a chunk of more bytes than there can be: as many
// hashes as it takes, the chunk, and the root to which they lead.
func farProof(r *rand.Rand, i, length int) (c []byte, proof []api.Hash, root api.Hash) {
	last := (length - 1) / 64
	c = someBytes(r, 64)
	if i == last {
		c = c[:length-64*last]
	}
	root = sha256.Sum256(append([]byte{0}, c...))
	for first := i; last > 0; first, last = first/2, last/2 {
		if first == last && first%2 == 0 {
			continue // the last of an uneven row has nothing beside it
		}
		p := api.Hash(someBytes(r, 32))
		proof = append(proof, p)
		l, r := root, p
		if first%2 == 1 {
			l, r = p, root
		}
		root = sha256.Sum256(bytes.Join([][]byte{{1}, l[:], r[:]}, nil))
	}
	return c, proof, root
}

// Check has a chunk and a length alone, so the length may be any number.
func TestCheckOfEveryLength(t *testing.T) { // P7.3
	r := rand.New(rand.NewSource(8))
	for _, n := range append(farLengths(), edgeLengths()...) {
		last := (n - 1) / 64
		for _, i := range []int{0, 1, last / 2, last - 1, last} {
			if i < 0 || i > last {
				continue
			}
			c, proof, root := farProof(r, i, n)
			checked(t, true, c, i, n, proof, root)
			checked(t, false, append(c, 0), i, n, proof, root)
			checked(t, false, c[:len(c)-1], i, n, proof, root)
			checked(t, false, c, i, n, proof, turned(root, r.Intn(256)))
			for _, wrong := range []int{-1, -i - 1, last + 1, i + math.MinInt, math.MinInt, last - math.MaxInt, math.MaxInt} {
				checked(t, false, c, wrong, n, proof, root)
			}
		}
	}
}

func TestCheckOfNoLength(t *testing.T) { // P7.3
	r := rand.New(rand.NewSource(9))
	lengths := []int{0, -1, -2, -62, -63, -64, -65, -128, math.MinInt, math.MinInt + 1, math.MinInt + 63, math.MinInt + 64, math.MinInt32}
	for _, length := range lengths {
		for _, size := range []int{0, 1, 63, 64} {
			c := someBytes(r, size)
			for _, i := range append(noNumbers(), 0, 1, 2, length/64) {
				for _, root := range []api.Hash{{}, tree.Leaf(c), tree.Root(nil)} {
					checked(t, false, c, i, length, nil, root)
					checked(t, false, c, i, length, []api.Hash{root}, root)
				}
			}
		}
	}
	for _, none := range [][]byte{nil, {}} {
		checked(t, false, none, 0, 0, nil, Root(nil))
		checked(t, false, none, 0, 0, nil, tree.Leaf(nil))
	}
}

// A chunk of no bytes is in no bytes: not even where the ones ahead fill theirs.
func TestNoChunkIsEmpty(t *testing.T) { // P7.3
	r := rand.New(rand.NewSource(10))
	for k := range 9 {
		b := someBytes(r, 64*k)
		var l []api.Hash
		for _, c := range append(plainSplit(b), nil) {
			l = append(l, tree.Leaf(c))
		}
		p, _ := tree.Inclusion(l, k)
		if !verify.Inclusion(tree.Leaf(nil), k, k+1, p, tree.Root(l)) {
			t.Fatal("no proof to begin with")
		}
		for _, length := range []int{64 * k, 64*k + 1, 64*k + 64} {
			checked(t, false, nil, k, length, p, tree.Root(l))
			checked(t, false, []byte{}, k, length, p, tree.Root(l))
		}
	}
}

func TestCheckOfAnotherNumber(t *testing.T) { // P7.3
	r := rand.New(rand.NewSource(11))
	for _, n := range edgeLengths() {
		b := someBytes(r, n)
		root, chunks := Root(b), Split(b)
		for i, c := range chunks {
			p := proved(t, b, i)
			wrong := append(noNumbers(), len(chunks), len(chunks)+1, i-len(chunks), i+256, i+1<<32, i+1<<58, i+math.MinInt)
			for j := range chunks {
				wrong = append(wrong, j)
			}
			for _, j := range wrong {
				if j != i {
					checked(t, false, c, j, n, p, root)
				}
			}
		}
	}
}

// The leaf, the place and the root may all fit, and how many bytes the chunk has
// alone not.
func TestCheckOfAnotherSize(t *testing.T) { // P7.3
	r := rand.New(rand.NewSource(12))
	for _, n := range edgeLengths() {
		count := (n + 63) / 64
		for i := range count {
			right := min(64, n-64*i)
			for _, size := range []int{0, 1, 2, right - 1, right, right + 1, 63, 64, 65, 128, 192, n} {
				c := someBytes(r, size)
				l := make([]api.Hash, count)
				l[i] = tree.Leaf(c)
				p, _ := tree.Inclusion(l, i)
				if !verify.Inclusion(tree.Leaf(c), i, count, p, tree.Root(l)) {
					t.Fatal("no proof to begin with")
				}
				checked(t, size == right, c, i, n, p, tree.Root(l))
			}
		}
	}
}

// Of another length of as many chunks only the last chunk tells: the others are
// held as before.
func TestCheckOfAnotherLength(t *testing.T) { // P7.3
	r := rand.New(rand.NewSource(13))
	for _, n := range edgeLengths() {
		b := someBytes(r, n)
		root, chunks := Root(b), Split(b)
		for i, c := range chunks {
			p := proved(t, b, i)
			for length := -65; length < n+200; length++ {
				same := length > 0 && (length+63)/64 == len(chunks)
				if same {
					checked(t, length == n || i < len(chunks)-1, c, i, length, p, root)
				} else if i == len(chunks)-1 || length < 1 {
					checked(t, false, c, i, length, p, root)
				}
				want := length > 0 && 64*i < length && len(c) == min(64, length-64*i) &&
					verify.Inclusion(tree.Leaf(c), i, (length+63)/64, p, root)
				checked(t, want, c, i, length, p, root)
			}
		}
	}
}

func TestCheckOfAByteMoreOrLess(t *testing.T) { // P7.3
	r := rand.New(rand.NewSource(14))
	for _, n := range edgeLengths() {
		b := someBytes(r, n)
		root := Root(b)
		for i, c := range Split(b) {
			p := proved(t, b, i)
			checked(t, false, append(bytes.Clone(c), 0), i, n, p, root)
			checked(t, false, append([]byte{0}, c...), i, n, p, root)
			// Those that are missing stand in the room behind the length.
			checked(t, false, c[:len(c)-1], i, n, p, root)
			checked(t, false, c[1:], i, n, p, root)
			checked(t, false, nil, i, n, p, root)
			checked(t, false, append(bytes.Clone(c), c...), i, n, p, root)
			if n > 64 {
				checked(t, false, b, i, n, p, root)
			}
		}
	}
}

func TestCheckOfAnotherCount(t *testing.T) { // P7.3
	r := rand.New(rand.NewSource(15))
	for _, n := range edgeLengths() {
		b := someBytes(r, n)
		root := Root(b)
		for i, c := range Split(b) {
			p := proved(t, b, i)
			checked(t, false, c, i, n, append(slices.Clone(p), api.Hash{}), root)
			checked(t, false, c, i, n, append([]api.Hash{{}}, p...), root)
			checked(t, false, c, i, n, append(slices.Clone(p), root), root)
			checked(t, false, c, i, n, append(slices.Clone(p), make([]api.Hash, 64)...), root)
			for j := range p {
				checked(t, false, c, i, n, slices.Delete(slices.Clone(p), j, j+1), root)
				checked(t, false, c, i, n, slices.Insert(slices.Clone(p), j, p[j]), root)
				// The missing ones stand in the room behind the length.
				checked(t, false, c, i, n, p[:j], root)
			}
		}
	}
}

func TestOneBitTurned(t *testing.T) { // P7.3
	r := rand.New(rand.NewSource(16))
	for _, n := range []int{1, 63, 64, 65, 128, 130, 192, 193, 320, 512} {
		b := someBytes(r, n)
		root := Root(b)
		for i, c := range Split(b) {
			p := proved(t, b, i)
			for at := range c {
				checked(t, false, turnedByte(c, at, r.Intn(8)), i, n, p, root)
			}
			for bit := range 256 {
				checked(t, false, c, i, n, p, turned(root, bit))
			}
			for at := range p {
				wrong := slices.Clone(p)
				wrong[at] = turned(wrong[at], r.Intn(256))
				checked(t, false, c, i, n, wrong, root)
			}
			checked(t, false, c, i, n, p, api.Hash{})
			checked(t, false, c, i, n, p, Root(nil))
		}
	}
}

// Some chunk tells where two strings of one length are unlike.
func TestUnlikeBytesHaveUnlikeRoots(t *testing.T) { // P7.4
	r := rand.New(rand.NewSource(17))
	for _, n := range edgeLengths() {
		roots := map[api.Hash]int{}
		b := someBytes(r, n)
		roots[Root(b)]++
		for at := range b {
			other := turnedByte(b, at, r.Intn(8))
			root := Root(other)
			roots[root]++
			i := at / 64
			checked(t, false, Split(b)[i], i, n, proved(t, b, i), root)
			checked(t, false, Split(other)[i], i, n, proved(t, other, i), Root(b))
		}
		if len(roots) != n+1 {
			t.Fatalf("%d bytes: %d roots of %d strings", n, len(roots), n+1)
		}
	}
}

// Chunks that change places are other bytes.
func TestChunksInAnotherOrder(t *testing.T) { // P7.4
	r := rand.New(rand.NewSource(18))
	for count := 2; count < 10; count++ {
		b := someBytes(r, 64*count)
		for i := range count {
			for j := range i {
				other := bytes.Clone(b)
				copy(other[64*i:], b[64*j:64*j+64])
				copy(other[64*j:], b[64*i:64*i+64])
				if Root(other) == Root(b) {
					t.Fatalf("%d chunks: the root is the same with %d and %d in each other's place", count, i, j)
				}
			}
		}
	}
}

// All strings of one length of a small alphabet, whose chunks are often the same.
func TestAllStringsOfAFewChunks(t *testing.T) { // P7.4
	roots := map[api.Hash][]byte{}
	for s := range 1 << 8 {
		b := make([]byte, 0, 64*8)
		for i := range 8 {
			b = append(b, bytes.Repeat([]byte{byte(s >> i & 1)}, 64)...)
		}
		if other, there := roots[Root(b)]; there {
			t.Fatalf("%x and %x have one root", b, other)
		}
		roots[Root(b)] = b
	}
}

// spoil fills all of a list with a byte, the room behind its length too.
func spoil(b []byte, with byte) {
	b = b[:cap(b)]
	for i := range b {
		b[i] = with
	}
}

func TestArgumentsAreLeftAlone(t *testing.T) { // R6
	r := rand.New(rand.NewSource(19))
	room := someBytes(r, 400)
	before := bytes.Clone(room)
	for _, n := range []int{0, 1, 63, 64, 65, 130, 192, 300} {
		b := room[:n]
		root := Root(b)
		Split(b)
		Proof(b, -1)
		Proof(b, n)
		for i := range (n + 63) / 64 {
			p := proved(t, b, i)
			proofRoom := append(slices.Clone(p), api.Hash{1}, api.Hash{2})
			proofBefore := slices.Clone(proofRoom)
			c := b[64*i : min(64*i+64, n)]
			checked(t, true, c, i, n, proofRoom[:len(p)], root)
			checked(t, false, c, i, n, proofRoom, root)
			if !slices.Equal(proofRoom, proofBefore) {
				t.Fatalf("%d bytes, %d: the proof that was handed in is changed", n, i)
			}
		}
		if !bytes.Equal(room, before) {
			t.Fatalf("%d bytes: what was handed in is changed, or the room behind it", n)
		}
	}
}

func TestRoomBehindIsNotRead(t *testing.T) { // R6
	r := rand.New(rand.NewSource(20))
	for _, n := range append(edgeLengths(), 0) {
		b := someBytes(r, n)
		room := append(bytes.Clone(b), someBytes(r, 200)...)[:n]
		if Root(room) != Root(b) || !slices.EqualFunc(Split(room), Split(b), bytes.Equal) {
			t.Fatalf("%d bytes: the room behind them is told", n)
		}
		for i, c := range Split(b) {
			if !slices.Equal(proved(t, room, i), proved(t, b, i)) {
				t.Fatalf("%d bytes, %d: the room behind them is in the proof", n, i)
			}
			checked(t, true, append(bytes.Clone(c), 1, 2, 3)[:len(c)], i, n, proved(t, b, i), Root(b))
		}
	}
}

func TestAnswersAreTheCallersOwn(t *testing.T) { // R6
	r := rand.New(rand.NewSource(21))
	for _, n := range edgeLengths() {
		b := someBytes(r, n+70)[:n]
		before := bytes.Clone(b[:cap(b)])
		chunks := append(Split(b), Split(b)...)
		for i, c := range chunks {
			spoil(c, byte(100+i))
		}
		if !bytes.Equal(b[:cap(b)], before) {
			t.Fatalf("%d bytes: a chunk shares memory with what was handed in", n)
		}
		for i, c := range chunks {
			if slices.ContainsFunc(c[:cap(c)], func(x byte) bool { return x != byte(100+i) }) {
				t.Fatalf("%d bytes: chunk %d shares memory with another one", n, i)
			}
		}
	}
}

// What is appended to a chunk does not run into the next one, nor what is
// appended to a list of chunks, or to a proof, into another answer.
func TestAnswersGrowAlone(t *testing.T) { // R6
	r := rand.New(rand.NewSource(22))
	b := someBytes(r, 500)
	first, second := Split(b), Split(b)
	for _, c := range first {
		_ = append(c, "more"...)
	}
	_ = append(first, []byte("more"))
	p, q := proved(t, b, 0), proved(t, b, 0)
	_ = append(p, api.Hash{1})
	for i := range p[:cap(p)] {
		p[:cap(p)][i] = api.Hash{9}
	}
	if !slices.EqualFunc(first, plainSplit(b), bytes.Equal) || !slices.EqualFunc(second, first, bytes.Equal) {
		t.Error("a chunk that grew changed another one")
	}
	if !slices.Equal(q, plainProof(plainSplit(b), 0)) || !slices.Equal(proved(t, b, 0), q) {
		t.Error("a proof that changed changed another one")
	}
}

// Whoever is given a piece of the caller's bytes can't come to the others by it.
func TestPiecesHaveNoRoom(t *testing.T) { // R6
	b := someBytes(rand.New(rand.NewSource(25)), 200)[:130]
	for i, want := range plainSplit(b) {
		if p := piece(b, i); !bytes.Equal(p, want) || cap(p) != len(p) {
			t.Errorf("piece %d: %d bytes, with room for %d", i, len(p), cap(p))
		}
	}
}

func TestWhatIsHandedInIsNotKept(t *testing.T) { // R6
	r := rand.New(rand.NewSource(23))
	b := someBytes(r, 500)
	before := bytes.Clone(b)
	chunks, p := Split(b), proved(t, b, 7)
	spoil(b, 0)
	if !slices.EqualFunc(chunks, plainSplit(before), bytes.Equal) {
		t.Error("Split: the answer changed with what was handed in")
	}
	if !slices.Equal(p, plainProof(plainSplit(before), 7)) {
		t.Error("Proof: the answer changed with what was handed in")
	}
}

func TestAnythingIsTaken(t *testing.T) { // R1
	r := rand.New(rand.NewSource(24))
	numbers := append(append(noNumbers(), farLengths()...), 0, 1, 2, 63, 64, 65, 130)
	for range 20000 {
		b := someBytes(r, r.Intn(200))
		if r.Intn(10) == 0 {
			b = nil
		}
		i, n := numbers[r.Intn(len(numbers))], numbers[r.Intn(len(numbers))]
		p := make([]api.Hash, r.Intn(66))
		Proof(b, i)
		checked(t, false, b, i, n, p, api.Hash{1})
	}
}
