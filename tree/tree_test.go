package tree

import (
	"bytes"
	"crypto/sha256"
	"encoding/hex"
	"math"
	"math/bits"
	"math/rand"
	"runtime"
	"slices"
	"testing"

	"muniment/api"
)

// plainLeaf and plainNode are the library's hashes of all bytes laid together.
func plainLeaf(b []byte) api.Hash {
	return sha256.Sum256(bytes.Join([][]byte{{0}, b}, nil))
}

func plainNode(l, r api.Hash) api.Hash {
	return sha256.Sum256(bytes.Join([][]byte{{1}, l[:], r[:]}, nil))
}

// levels are the rows of the tree over some leaves, from below up: each has the
// nodes of two neighbours of the row below it, and one that is left over goes up
// as it is. The last row is the root alone.
func levels(l []api.Hash) [][]api.Hash {
	rows := [][]api.Hash{l}
	for len(l) > 1 {
		var above []api.Hash
		for i := 0; i+1 < len(l); i += 2 {
			above = append(above, plainNode(l[i], l[i+1]))
		}
		if len(l)%2 == 1 {
			above = append(above, l[len(l)-1])
		}
		rows, l = append(rows, above), above
	}
	return rows
}

func plainRoot(l []api.Hash) api.Hash {
	if len(l) == 0 {
		return sha256.Sum256(nil)
	}
	rows := levels(l)
	return rows[len(rows)-1][0]
}

// climb gives the neighbours that a place of a row has on its way up.
func climb(rows [][]api.Hash, row, at int) []api.Hash {
	var proof []api.Hash
	for ; row < len(rows); row, at = row+1, at/2 {
		if beside := at ^ 1; beside < len(rows[row]) {
			proof = append(proof, rows[row][beside])
		}
	}
	return proof
}

func plainInclusion(l []api.Hash, m int) []api.Hash { return climb(levels(l), 0, m) }

// plainConsistency begins at the full tree that ends the first m leaves. It is
// told itself, unless it is all of them.
func plainConsistency(l []api.Hash, m int) []api.Hash {
	if m == 0 || m == len(l) {
		return nil
	}
	rows, row, at := levels(l), 0, m-1
	for at%2 == 1 {
		row, at = row+1, at/2
	}
	var proof []api.Hash
	if at > 0 {
		proof = append(proof, rows[row][at])
	}
	return append(proof, climb(rows, row, at)...)
}

// below is the greatest power of two below n, by counting.
func below(n int) int {
	k := 1
	for k*2 < n {
		k *= 2
	}
	return k
}

// wayUp is chapter 6's way up, with its own words.
func wayUp(x api.Hash, m, n int, row []api.Hash) (api.Hash, bool) {
	if n == 1 {
		return x, len(row) == 0
	}
	if len(row) == 0 {
		return api.Hash{}, false
	}
	p, others, k := row[len(row)-1], row[:len(row)-1], below(n)
	if m < k {
		h, there := wayUp(x, m, k, others)
		return plainNode(h, p), there
	}
	h, there := wayUp(x, m-k, n-k, others)
	return plainNode(p, h), there
}

// twoWays are chapter 6's two ways: an old and a new hash.
func twoWays(m, n int, a api.Hash, row []api.Hash, whole bool) (older, newer api.Hash, there bool) {
	if m == n && whole {
		return a, a, len(row) == 0
	}
	if len(row) == 0 {
		return api.Hash{}, api.Hash{}, false
	}
	p, others := row[len(row)-1], row[:len(row)-1]
	if m == n {
		return p, p, len(others) == 0
	}
	k := below(n)
	if m <= k {
		older, newer, there = twoWays(m, k, a, others, whole)
		return older, plainNode(newer, p), there
	}
	older, newer, there = twoWays(m-k, n-k, a, others, false)
	return plainNode(p, older), plainNode(p, newer), there
}

// holdsInclusion is P6.1.
func holdsInclusion(leaf api.Hash, m, n int, proof []api.Hash, root api.Hash) bool {
	if m < 0 || m >= n {
		return false
	}
	h, there := wayUp(leaf, m, n, proof)
	return there && h == root
}

// holdsConsistency is P6.2.
func holdsConsistency(m, n int, a, b api.Hash, proof []api.Hash) bool {
	if m < 0 || m > n {
		return false
	}
	if m == 0 {
		return len(proof) == 0 && a == plainRoot(nil) && (n > 0 || b == a)
	}
	older, newer, there := twoWays(m, n, a, proof, true)
	return there && older == a && newer == b
}

// someLeaves are n leaves, all unlike.
func someLeaves(r *rand.Rand, n int) []api.Hash {
	l := make([]api.Hash, n)
	for i := range l {
		r.Read(l[i][:])
	}
	return l
}

// greatSizes lie at and around powers of two.
func greatSizes() []int {
	return []int{127, 128, 129, 255, 256, 257, 1000, 1023, 1024, 1025}
}

// someSizes are all small ones, and those great ones.
func someSizes() []int {
	var sizes []int
	for n := range 70 {
		sizes = append(sizes, n)
	}
	return append(sizes, greatSizes()...)
}

// somePlaces are all numbers from 0 to a small n; of a great n the edges, those
// beside powers of two, and some that are drawn.
func somePlaces(r *rand.Rand, n int) []int {
	var places []int
	if n < 70 {
		for m := range n + 1 {
			places = append(places, m)
		}
		return places
	}
	places = append(places, 0, 1, 2, 3, n/2, n-3, n-2, n-1, n)
	for k := 4; k+1 < n; k *= 2 {
		places = append(places, k-1, k, k+1)
	}
	for range 4 {
		places = append(places, r.Intn(n))
	}
	return places
}

// wrongNumbers are no sizes, and no places, of a row of n leaves.
func wrongNumbers(n int) []int {
	return []int{-1, -2, -n, -n - 1, -n - 2, math.MinInt32, math.MinInt, math.MinInt + 1, n + 1, n + 2, 2*n + 1, 2*n + 2, n + 64, n + 256, math.MaxInt32, math.MaxInt - 1, math.MaxInt, math.MinInt + n}
}

func includes(t *testing.T, l []api.Hash, m int, want []api.Hash) {
	t.Helper()
	if p, e := Inclusion(l, m); !slices.Equal(p, want) || e != api.OK {
		t.Fatalf("Inclusion of %d leaves, %d: %x, %v; want %x", len(l), m, p, e, want)
	}
}

func isConsistent(t *testing.T, l []api.Hash, m int, want []api.Hash) {
	t.Helper()
	if p, e := Consistency(l, m); !slices.Equal(p, want) || e != api.OK {
		t.Fatalf("Consistency of %d leaves, %d: %x, %v; want %x", len(l), m, p, e, want)
	}
}

func noInclusion(t *testing.T, l []api.Hash, m int) {
	t.Helper()
	if p, e := Inclusion(l, m); len(p) != 0 || e != api.ErrTree {
		t.Fatalf("Inclusion of %d leaves, %d: %d hashes, %v; want ErrTree", len(l), m, len(p), e)
	}
}

func noConsistency(t *testing.T, l []api.Hash, m int) {
	t.Helper()
	if p, e := Consistency(l, m); len(p) != 0 || e != api.ErrTree {
		t.Fatalf("Consistency of %d leaves, %d: %d hashes, %v; want ErrTree", len(l), m, len(p), e)
	}
}

func isHash(t *testing.T, what string, h api.Hash, want string) {
	t.Helper()
	if told := hex.EncodeToString(h[:]); told != want {
		t.Errorf("%s: %s, want %s", what, told, want)
	}
}

func TestExamples(t *testing.T) { // P5.1 to P5.4
	isHash(t, "Root(nil)", Root(nil), "e3b0c44298fc1c149afbf4c8996fb92427ae41e4649b934ca495991b7852b855")
	isHash(t, "Root of none", Root([]api.Hash{}), "e3b0c44298fc1c149afbf4c8996fb92427ae41e4649b934ca495991b7852b855")
	isHash(t, "Leaf(nil)", Leaf(nil), "6e340b9cffb37a989ca544e6bb780a2c78901d3fb33738768511a30617afa01d")
	isHash(t, "Leaf of none", Leaf([]byte{}), "6e340b9cffb37a989ca544e6bb780a2c78901d3fb33738768511a30617afa01d")
	a, b, c := Leaf([]byte("a")), Leaf([]byte("b")), Leaf([]byte("c"))
	l := []api.Hash{a, b, c}
	includes(t, l, 0, []api.Hash{b, c})
	includes(t, l, 1, []api.Hash{a, c})
	includes(t, l, 2, []api.Hash{Node(a, b)})
	noInclusion(t, l, 3)
	isConsistent(t, l, 0, nil)
	isConsistent(t, l, 1, []api.Hash{b, c})
	isConsistent(t, l, 2, []api.Hash{c})
	isConsistent(t, l, 3, nil)
	noConsistency(t, l, 4)
}

// The roots of the first 1 to 8 of eight entries that are known from elsewhere.
func TestKnownRoots(t *testing.T) { // P5.1, P5.2, P5.5
	entries := []string{"", "00", "10", "2021", "3031", "40414243", "5051525354555657", "606162636465666768696a6b6c6d6e6f"}
	roots := []string{
		"6e340b9cffb37a989ca544e6bb780a2c78901d3fb33738768511a30617afa01d",
		"fac54203e7cc696cf0dfcb42c92a1d9dbaf70ad9e621f4bd8d98662f00e3c125",
		"aeb6bcfe274b70a14fb067a5e5578264db0fa9b51af5e0ba159158f329e06e77",
		"d37ee418976dd95753c1c73862b9398fa2a2cf9b4ff0fdfe8b30cd95209614b7",
		"4e3bbb1f7b478dcfe71fb631631519a3bca12c9aefca1612bfce4c13a86264d4",
		"76e67dadbcdf1e10e1b74ddc608abd2f98dfb16fbce75277b5232a127f2087ef",
		"ddb89be403809e325750d3d263cd78929c2942b7942a34b77e122c9594a74c8c",
		"5dc9da79a70659a9ad559cb701ded9a2ab9d823aad2f4960cfe370eff4604328",
	}
	var l []api.Hash
	g := NewGrow()
	for i, entry := range entries {
		b, err := hex.DecodeString(entry)
		if err != nil {
			t.Fatal(err)
		}
		l = append(l, Leaf(b))
		g.Add(l[i])
		isHash(t, "Root", Root(l), roots[i])
		isHash(t, "Grow's Root", g.Root(), roots[i])
	}
}

// RFC 6962, 2.1.3: a tree of seven leaves, and the proofs that are told there.
func TestSevenLeaves(t *testing.T) { // P5.2 to P5.4
	l := someLeaves(rand.New(rand.NewSource(1)), 7)
	a, b, c, d, e, f, j := l[0], l[1], l[2], l[3], l[4], l[5], l[6]
	g, h, i := plainNode(a, b), plainNode(c, d), plainNode(e, f)
	k, left := plainNode(i, j), plainNode(g, h)
	if r := Root(l); r != plainNode(left, k) {
		t.Errorf("Root: %x", r)
	}
	includes(t, l, 0, []api.Hash{b, h, k})
	includes(t, l, 3, []api.Hash{c, g, k})
	includes(t, l, 4, []api.Hash{f, j, left})
	includes(t, l, 6, []api.Hash{i, left})
	isConsistent(t, l, 3, []api.Hash{c, d, g, k})
	isConsistent(t, l, 4, []api.Hash{k})
	isConsistent(t, l, 6, []api.Hash{i, j, left})
}

func TestLeafOfEveryLength(t *testing.T) { // P5.1
	r := rand.New(rand.NewSource(2))
	lengths := []int{1000, 1023, 1024, 1025, 1 << 16}
	for n := range 300 {
		lengths = append(lengths, n)
	}
	for _, n := range lengths {
		b := make([]byte, n)
		r.Read(b)
		if h := Leaf(b); h != plainLeaf(b) {
			t.Fatalf("Leaf of %d bytes: %x", n, h)
		}
	}
	for c := range 256 {
		if h := Leaf([]byte{byte(c)}); h != plainLeaf([]byte{byte(c)}) {
			t.Fatalf("Leaf of %02x: %x", c, h)
		}
	}
}

func TestNode(t *testing.T) { // P5.1
	r := rand.New(rand.NewSource(3))
	pairs := append(someLeaves(r, 200), api.Hash{}, api.Hash{}, api.Hash{31: 1}, api.Hash{0: 1})
	for i := 0; i < len(pairs); i += 2 {
		x, y := pairs[i], pairs[i+1]
		if h := Node(x, y); h != plainNode(x, y) {
			t.Fatalf("Node(%x, %x): %x", x, y, h)
		}
		if x != y && Node(x, y) == Node(y, x) {
			t.Fatalf("Node of %x and %x is the same both ways", x, y)
		}
	}
}

// A leaf of the very bytes of which a node is made must not be that node.
func TestLeavesAreNoNodes(t *testing.T) { // P5.1
	l := someLeaves(rand.New(rand.NewSource(4)), 2)
	both := bytes.Join([][]byte{l[0][:], l[1][:]}, nil)
	node := Node(l[0], l[1])
	if node == Leaf(both) || node == Leaf(append([]byte{1}, both...)) {
		t.Error("a leaf is a node")
	}
}

func TestRoot(t *testing.T) { // P5.2
	r := rand.New(rand.NewSource(5))
	for _, n := range append(someSizes(), 4095, 4096, 4097, 10000) {
		l := someLeaves(r, n)
		if h := Root(l); h != plainRoot(l) {
			t.Fatalf("Root of %d leaves: %x, want %x", n, h, plainRoot(l))
		}
	}
}

func TestRootOfFew(t *testing.T) { // P5.2
	l := someLeaves(rand.New(rand.NewSource(6)), 5)
	for n, want := range []api.Hash{
		sha256.Sum256(nil),
		l[0],
		plainNode(l[0], l[1]),
		plainNode(plainNode(l[0], l[1]), l[2]),
		plainNode(plainNode(l[0], l[1]), plainNode(l[2], l[3])),
		plainNode(plainNode(plainNode(l[0], l[1]), plainNode(l[2], l[3])), l[4]),
	} {
		if h := Root(l[:n]); h != want {
			t.Errorf("Root of %d leaves: %x, want %x", n, h, want)
		}
	}
}

// Leaves that are the same, or nought, are leaves like others.
func TestLikeLeaves(t *testing.T) { // P5.2 to P5.5
	for _, x := range []api.Hash{{}, Leaf(nil), Root(nil)} {
		g := NewGrow()
		for n := range 40 {
			l := slices.Repeat([]api.Hash{x}, n)
			if Root(l) != plainRoot(l) || g.Root() != plainRoot(l) || g.Size() != n {
				t.Fatalf("%d leaves %x: roots %x, %x, size %d", n, x, Root(l), g.Root(), g.Size())
			}
			for m := range n {
				includes(t, l, m, plainInclusion(l, m))
				isConsistent(t, l, m, plainConsistency(l, m))
			}
			g.Add(x)
		}
	}
}

func TestInclusionOfEveryPlace(t *testing.T) { // P5.3
	r := rand.New(rand.NewSource(7))
	for _, n := range someSizes() {
		l := someLeaves(r, n)
		for _, m := range somePlaces(r, n) {
			if m < n {
				includes(t, l, m, plainInclusion(l, m))
			}
		}
	}
}

func TestInclusionOfFew(t *testing.T) { // P5.3
	l := someLeaves(rand.New(rand.NewSource(8)), 5)
	includes(t, l[:1], 0, nil)
	includes(t, l[:2], 0, []api.Hash{l[1]})
	includes(t, l[:2], 1, []api.Hash{l[0]})
	four := plainNode(plainNode(l[0], l[1]), plainNode(l[2], l[3]))
	includes(t, l[:4], 3, []api.Hash{l[2], plainNode(l[0], l[1])})
	includes(t, l, 0, []api.Hash{l[1], plainNode(l[2], l[3]), l[4]})
	includes(t, l, 4, []api.Hash{four})
}

func TestInclusionOfNoPlace(t *testing.T) { // P5.3
	r := rand.New(rand.NewSource(9))
	for _, n := range someSizes() {
		l := someLeaves(r, n+3)[:n] // the leaves that are missing stand in the room behind
		for _, m := range append(wrongNumbers(n), n) {
			if m < 0 || m >= n {
				noInclusion(t, l, m)
			}
		}
	}
	for _, m := range []int{0, 1, -1} {
		noInclusion(t, nil, m)
		noInclusion(t, []api.Hash{}, m)
	}
}

func TestConsistencyOfEverySize(t *testing.T) { // P5.4
	r := rand.New(rand.NewSource(10))
	for _, n := range someSizes() {
		l := someLeaves(r, n)
		for _, m := range somePlaces(r, n) {
			isConsistent(t, l, m, plainConsistency(l, m))
		}
	}
}

func TestConsistencyOfFew(t *testing.T) { // P5.4
	l := someLeaves(rand.New(rand.NewSource(11)), 5)
	isConsistent(t, l[:2], 1, []api.Hash{l[1]})
	isConsistent(t, l[:4], 1, []api.Hash{l[1], plainNode(l[2], l[3])})
	isConsistent(t, l[:4], 2, []api.Hash{plainNode(l[2], l[3])})
	isConsistent(t, l[:4], 3, []api.Hash{l[2], l[3], plainNode(l[0], l[1])})
	isConsistent(t, l, 3, []api.Hash{l[2], l[3], plainNode(l[0], l[1]), l[4]})
	isConsistent(t, l, 4, []api.Hash{l[4]})
}

func TestConsistencyOfNothingAndAll(t *testing.T) { // P5.4
	r := rand.New(rand.NewSource(12))
	isConsistent(t, nil, 0, nil)
	isConsistent(t, []api.Hash{}, 0, nil)
	for _, n := range someSizes() {
		l := someLeaves(r, n)
		isConsistent(t, l, 0, nil)
		isConsistent(t, l, n, nil)
	}
}

func TestConsistencyOfNoSize(t *testing.T) { // P5.4
	r := rand.New(rand.NewSource(13))
	for _, n := range someSizes() {
		l := someLeaves(r, n+3)[:n]
		for _, m := range wrongNumbers(n) {
			if m < 0 || m > n {
				noConsistency(t, l, m)
			}
		}
	}
	for _, m := range []int{1, 2, -1} {
		noConsistency(t, nil, m)
		noConsistency(t, []api.Hash{}, m)
	}
}

func TestGrow(t *testing.T) { // P5.5
	l := someLeaves(rand.New(rand.NewSource(14)), 1100)
	g := NewGrow()
	for n := range len(l) + 1 {
		want := plainRoot(l[:n])
		for range 2 { // to ask changes nothing
			if g.Size() != n || g.Root() != want {
				t.Fatalf("behind %d leaves: size %d, root %x, want %x", n, g.Size(), g.Root(), want)
			}
		}
		if n < len(l) {
			g.Add(l[n])
		}
	}
}

func TestGrowThatIsNotAskedBetween(t *testing.T) { // P5.5
	r := rand.New(rand.NewSource(15))
	for _, n := range someSizes() {
		l := someLeaves(r, n)
		g := NewGrow()
		for _, h := range l {
			g.Add(h)
		}
		if g.Size() != n || g.Root() != plainRoot(l) {
			t.Fatalf("behind %d leaves: size %d, root %x, want %x", n, g.Size(), g.Root(), plainRoot(l))
		}
	}
}

func TestEachGrowHasItsOwnLeaves(t *testing.T) { // P5.5
	r := rand.New(rand.NewSource(16))
	l, k := someLeaves(r, 50), someLeaves(r, 50)
	g, h := NewGrow(), NewGrow()
	for i := range l {
		g.Add(l[i])
		if h.Size() != i || h.Root() != plainRoot(k[:i]) {
			t.Fatalf("%d: a leaf of another one is seen: size %d, root %x", i, h.Size(), h.Root())
		}
		h.Add(k[i])
		if g.Size() != i+1 || g.Root() != plainRoot(l[:i+1]) {
			t.Fatalf("%d: a leaf of another one is seen: size %d, root %x", i, g.Size(), g.Root())
		}
	}
}

// held is how many bytes of memory are in use.
func held() int {
	runtime.GC()
	runtime.GC()
	var m runtime.MemStats
	runtime.ReadMemStats(&m)
	return int(m.HeapAlloc)
}

func TestGrowKeepsFewHashes(t *testing.T) { // P5.5
	const size = 1 << 17
	ahead := held()
	g := NewGrow()
	for i := range size - 1 { // as many full trees as there can be
		g.Add(api.Hash{byte(i), byte(i >> 8), byte(i >> 16)})
		if doublings := bits.Len(uint(g.size)); cap(g.full) > 2*doublings {
			t.Fatalf("behind %d leaves there is room for %d hashes", g.size, cap(g.full))
		}
	}
	kept := held() - ahead
	runtime.KeepAlive(g)
	// All leaves would be some four million bytes.
	if kept > 1<<18 {
		t.Errorf("behind %d leaves %d bytes are kept", size, kept)
	}
}

func TestInclusionIsHeld(t *testing.T) { // P5.6, of P6.3
	r := rand.New(rand.NewSource(17))
	for _, n := range someSizes() {
		l := someLeaves(r, n)
		root := Root(l)
		for _, m := range somePlaces(r, n) {
			if m == n {
				continue
			}
			p, e := Inclusion(l, m)
			if e != api.OK || !holdsInclusion(l[m], m, n, p, root) {
				t.Fatalf("Inclusion of %d leaves, %d: %x, %v is not held", n, m, p, e)
			}
		}
	}
}

func TestConsistencyIsHeld(t *testing.T) { // P5.6, of P6.3
	r := rand.New(rand.NewSource(18))
	for _, n := range someSizes() {
		l := someLeaves(r, n)
		root := Root(l)
		for _, m := range somePlaces(r, n) {
			p, e := Consistency(l, m)
			if e != api.OK || !holdsConsistency(m, n, Root(l[:m]), root, p) {
				t.Fatalf("Consistency of %d leaves, %d: %x, %v is not held", n, m, p, e)
			}
		}
	}
}

// Nor with the leaf of another place, nor at another place, nor with another root.
func TestInclusionOfNothingElseIsHeld(t *testing.T) { // P5.6, of P6.4
	r := rand.New(rand.NewSource(19))
	for n := 2; n < 40; n++ {
		l := someLeaves(r, n)
		root := Root(l)
		for m := range n {
			p, _ := Inclusion(l, m)
			for i := range n {
				if i != m && (holdsInclusion(l[i], m, n, p, root) || holdsInclusion(l[m], i, n, p, root)) {
					t.Fatalf("of %d leaves the proof of %d holds with %d too", n, m, i)
				}
			}
			if holdsInclusion(l[m], m, n, p, Root(l[:n-1])) || holdsInclusion(l[m], m, n, p, Root(nil)) {
				t.Fatalf("of %d leaves the proof of %d holds with another root", n, m)
			}
		}
	}
}

func TestConsistencyOfNothingElseIsHeld(t *testing.T) { // P5.6, of P6.4
	r := rand.New(rand.NewSource(20))
	for n := 2; n < 40; n++ {
		l := someLeaves(r, n)
		root := Root(l)
		for m := 1; m < n; m++ {
			p, _ := Consistency(l, m)
			a := Root(l[:m])
			for i := range n {
				if i != m && holdsConsistency(m, n, Root(l[:i]), root, p) {
					t.Fatalf("of %d leaves the proof of the first %d holds with the root of %d", n, m, i)
				}
				if holdsConsistency(m, n, a, Root(l[:i]), p) {
					t.Fatalf("of %d leaves the proof of the first %d holds with the root of %d as new", n, m, i)
				}
			}
			turned := slices.Clone(l)
			turned[r.Intn(m)][r.Intn(32)] ^= 1
			if holdsConsistency(m, n, Root(turned[:m]), root, p) {
				t.Fatalf("of %d leaves the proof of the first %d holds with a leaf that was turned", n, m)
			}
		}
	}
}

func TestAHashMoreOrLessIsNotHeld(t *testing.T) { // P5.6, of P6.5
	r := rand.New(rand.NewSource(21))
	for n := 2; n < 40; n++ {
		l := someLeaves(r, n)
		root := Root(l)
		for m := range n {
			p, _ := Inclusion(l, m)
			if len(p) == 0 {
				t.Fatalf("Inclusion of %d leaves, %d has no hash", n, m)
			}
			for _, wrong := range otherCounts(p) {
				if holdsInclusion(l[m], m, n, wrong, root) {
					t.Fatalf("Inclusion of %d leaves, %d: held with %d hashes for %d", n, m, len(wrong), len(p))
				}
			}
			if m == 0 {
				continue
			}
			p, _ = Consistency(l, m)
			if len(p) == 0 {
				t.Fatalf("Consistency of %d leaves, %d has no hash", n, m)
			}
			for _, wrong := range otherCounts(p) {
				if holdsConsistency(m, n, Root(l[:m]), root, wrong) {
					t.Fatalf("Consistency of %d leaves, %d: held with %d hashes for %d", n, m, len(wrong), len(p))
				}
			}
		}
	}
}

// otherCounts are a proof without one of its hashes, and with one of them twice.
func otherCounts(p []api.Hash) [][]api.Hash {
	var wrong [][]api.Hash
	for i := range p {
		wrong = append(wrong, slices.Delete(slices.Clone(p), i, i+1), slices.Insert(slices.Clone(p), i, p[i]))
	}
	return wrong
}

// spoil turns all of a list, the room behind its length too.
func spoil(l []api.Hash) {
	l = l[:cap(l)]
	for i := range l {
		for j := range l[i] {
			l[i][j] ^= 0xff
		}
	}
}

func TestLeafLeavesItsBytesAlone(t *testing.T) { // R6
	room := []byte("an entry, and the room behind it")
	ahead := bytes.Clone(room)
	for n := range len(room) + 1 {
		h := Leaf(room[:n])
		if !bytes.Equal(room, ahead) {
			t.Fatalf("Leaf of %d bytes changed them, or the room behind them", n)
		}
		if h != Leaf(bytes.Clone(room[:n])) {
			t.Fatalf("Leaf of %d bytes hangs on the room behind them", n)
		}
	}
}

func TestLeavesAreLeftAlone(t *testing.T) { // R6
	r := rand.New(rand.NewSource(23))
	for n := range 40 {
		room := someLeaves(r, n+5)
		ahead := slices.Clone(room)
		l := room[:n]
		Root(l)
		for m := -1; m <= n+1; m++ {
			Inclusion(l, m)
			Consistency(l, m)
		}
		if !slices.Equal(room, ahead) {
			t.Fatalf("%d leaves, or the room behind them, were changed", n)
		}
	}
}

func TestRoomBehindIsNotRead(t *testing.T) { // R6
	r := rand.New(rand.NewSource(24))
	for n := range 40 {
		room := someLeaves(r, n+5)
		l := room[:n]
		bare := slices.Clone(l)
		if Root(l) != Root(bare) {
			t.Fatalf("Root of %d leaves hangs on the room behind them", n)
		}
		for m := range n {
			p, _ := Inclusion(bare, m)
			includes(t, l, m, p)
			p, _ = Consistency(bare, m)
			isConsistent(t, l, m, p)
		}
	}
}

func TestProofsAreNewMemory(t *testing.T) { // R6
	r := rand.New(rand.NewSource(25))
	for n := range 40 {
		room := someLeaves(r, n+5)
		ahead := slices.Clone(room)
		l := room[:n]
		for m := range n {
			for _, prove := range []func([]api.Hash, int) ([]api.Hash, api.Errno){Inclusion, Consistency} {
				p, _ := prove(l, m)
				want := slices.Clone(p)
				q, _ := prove(l, m)
				spoil(q)
				if !slices.Equal(room, ahead) {
					t.Fatalf("a proof of %d leaves, %d has the leaves' memory", n, m)
				}
				if again, _ := prove(l, m); !slices.Equal(p, want) || !slices.Equal(again, want) {
					t.Fatalf("a proof of %d leaves, %d has the memory of another one", n, m)
				}
				spoil(room)
				if !slices.Equal(p, want) {
					t.Fatalf("a proof of %d leaves, %d keeps the leaves' memory", n, m)
				}
				spoil(room)
			}
		}
	}
}
