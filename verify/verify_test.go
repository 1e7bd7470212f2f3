package verify

import (
	"bytes"
	"crypto/sha256"
	"math"
	"math/bits"
	"math/rand"
	"slices"
	"testing"
	"time"

	"muniment/api"
	"muniment/tree"
)

// plainNode is the library's hash of all bytes laid together.
func plainNode(l, r api.Hash) api.Hash {
	return sha256.Sum256(bytes.Join([][]byte{{1}, l[:], r[:]}, nil))
}

// climb goes up from below by the bits of two places, as RFC 9162 does (2.1.3.2,
// 2.1.4.2): first is of the one that is proved, last of the last leaf of all. It
// tells where both hashes come to, and whether the row was as long as the way.
func climb(first, last int, older, newer api.Hash, row []api.Hash) (api.Hash, api.Hash, bool) {
	for _, p := range row {
		if last == 0 {
			return older, newer, false
		}
		if first%2 == 1 || first == last {
			older, newer = plainNode(p, older), plainNode(p, newer)
			for first%2 == 0 && first > 0 {
				first, last = first/2, last/2
			}
		} else {
			newer = plainNode(newer, p)
		}
		first, last = first/2, last/2
	}
	return older, newer, last == 0
}

func plainWay(leaf api.Hash, m, n int, row []api.Hash) (api.Hash, bool) {
	_, root, there := climb(m, n-1, leaf, leaf, row)
	return root, there
}

// plainWays are of m below n. A row that has no hash to begin with has none.
func plainWays(m, n int, a api.Hash, row []api.Hash) (older, newer api.Hash, there bool) {
	if len(row) == 0 {
		return a, a, false
	}
	first, last, begin := m-1, n-1, a
	if m&(m-1) != 0 {
		begin, row = row[0], row[1:]
	}
	for first%2 == 1 {
		first, last = first/2, last/2
	}
	return climb(first, last, begin, begin, row)
}

func plainInclusion(leaf api.Hash, m, n int, proof []api.Hash, root api.Hash) bool {
	if m < 0 || m >= n {
		return false
	}
	h, there := plainWay(leaf, m, n, proof)
	return there && h == root
}

func plainConsistency(m, n int, a, b api.Hash, proof []api.Hash) bool {
	switch {
	case m < 0 || m > n:
		return false
	case m == 0 && n > 0:
		return len(proof) == 0 && a == sha256.Sum256(nil)
	case m == 0:
		return len(proof) == 0 && a == sha256.Sum256(nil) && b == a
	case m == n:
		return len(proof) == 0 && b == a
	}
	older, newer, there := plainWays(m, n, a, proof)
	return there && older == a && newer == b
}

// inclusionCount is how many hashes the proof of leaf m of n has: one for each
// step up till the way meets that of the last leaf, and from there on one for
// each tree that stands on the left.
func inclusionCount(m, n int) int {
	meet := bits.Len(uint(m ^ (n - 1)))
	return meet + bits.OnesCount(uint(m)>>meet)
}

// consistencyCount is that of the first m of n, from 1 to n - 1: the way begins
// at the full tree that ends the first m, which is told, unless it is all of them.
func consistencyCount(m, n int) int {
	full := bits.TrailingZeros(uint(m))
	count := inclusionCount(m-1, n) - full
	if m == 1<<full {
		return count
	}
	return count + 1
}

// someHashes are n of them, all unlike.
func someHashes(r *rand.Rand, n int) []api.Hash {
	l := make([]api.Hash, n)
	for i := range l {
		r.Read(l[i][:])
	}
	return l
}

// someSizes are all small ones, and great ones at and around powers of two.
func someSizes() []int {
	var sizes []int
	for n := range 40 {
		sizes = append(sizes, n)
	}
	return append(sizes, 63, 64, 65, 127, 128, 129, 255, 256, 257, 1000, 1023, 1024, 1025)
}

// farSizes are greater than any row of leaves can be.
func farSizes() []int {
	return []int{
		math.MaxInt, math.MaxInt - 1, math.MaxInt - 2, math.MaxInt / 3, math.MaxInt/3*2 + 1,
		1<<62 - 1, 1 << 62, 1<<62 + 1, 1<<62 + 2, 1<<62 + 1<<61, 1<<61 - 1, 1 << 61, 1<<61 + 1,
		1<<40 - 1, 1 << 40, 1<<40 + 1, 1<<32 - 1, 1 << 32, 1<<32 + 1, 1<<31 - 1, 1 << 31, 1<<31 + 1,
		0x5555555555555555, 0x2aaaaaaaaaaaaaab,
	}
}

// somePlaces are all numbers from 0 to a small n; of a great n the edges, those
// beside powers of two, and some that are drawn.
func somePlaces(r *rand.Rand, n int) []int {
	var places []int
	if n < 40 {
		for m := range n + 1 {
			places = append(places, m)
		}
		return places
	}
	places = []int{0, 1, 2, 3, n / 2, n - 3, n - 2, n - 1, n}
	step := 2
	if n > 1<<20 {
		step = 64
	}
	for k := 4; k > 0 && k < n-1; k *= step {
		places = append(places, k-1, k, k+1)
	}
	for range 4 {
		places = append(places, r.Intn(n))
	}
	return places
}

// somePairs are an m and an n, m from low to n - 1, of small, great and far sizes.
func somePairs(r *rand.Rand, low int) [][2]int {
	var pairs [][2]int
	for _, n := range append(someSizes(), farSizes()...) {
		for _, m := range somePlaces(r, n) {
			if m >= low && m < n {
				pairs = append(pairs, [2]int{m, n})
			}
		}
	}
	return pairs
}

// inclusionOf makes up a proof, of any n: a leaf, a row of as many hashes as it
// takes, and the root to which they lead.
func inclusionOf(r *rand.Rand, m, n int) (leaf api.Hash, proof []api.Hash, root api.Hash) {
	h := someHashes(r, 1+inclusionCount(m, n))
	root, _ = plainWay(h[0], m, n, h[1:])
	return h[0], h[1:], root
}

// consistencyOf makes up a proof that the first m of n, from 1 to n - 1, have the
// root a, and all of them b.
func consistencyOf(r *rand.Rand, m, n int) (a, b api.Hash, proof []api.Hash) {
	h := someHashes(r, 1+consistencyCount(m, n))
	a, b, _ = plainWays(m, n, h[0], h[1:])
	return a, b, h[1:]
}

// turned is a hash with one bit turned.
func turned(h api.Hash, bit int) api.Hash {
	h[bit/8] ^= 1 << (bit % 8)
	return h
}

// turnedIn is a row in which one bit of one hash is turned.
func turnedIn(row []api.Hash, at, bit int) []api.Hash {
	row = slices.Clone(row)
	row[at] = turned(row[at], bit)
	return row
}

// someAt are all places of a short row; of a long one its ends, and some that are
// drawn.
func someAt(r *rand.Rand, count int) []int {
	var at []int
	for i := range count {
		if count < 10 || i < 2 || i > count-3 || r.Intn(16) == 0 {
			at = append(at, i)
		}
	}
	return at
}

// otherCounts are a proof without one of its hashes, with one of them twice, and
// with many more.
func otherCounts(r *rand.Rand, p []api.Hash) [][]api.Hash {
	wrong := [][]api.Hash{append(slices.Clone(p), api.Hash{}), append([]api.Hash{{}}, p...)}
	for _, i := range someAt(r, len(p)) {
		wrong = append(wrong, slices.Delete(slices.Clone(p), i, i+1), slices.Insert(slices.Clone(p), i, p[i]))
	}
	return append(wrong, nil, append(slices.Clone(p), p...), append(slices.Clone(p), make([]api.Hash, 64)...))
}

func included(t *testing.T, want bool, leaf api.Hash, m, n int, proof []api.Hash, root api.Hash) {
	t.Helper()
	if told := Inclusion(leaf, m, n, proof, root); told != want {
		t.Fatalf("Inclusion(%x, %d, %d, %x, %x): %v", leaf, m, n, proof, root, told)
	}
}

func consistent(t *testing.T, want bool, m, n int, a, b api.Hash, proof []api.Hash) {
	t.Helper()
	if told := Consistency(m, n, a, b, proof); told != want {
		t.Fatalf("Consistency(%d, %d, %x, %x, %x): %v", m, n, a, b, proof, told)
	}
}

func TestExamples(t *testing.T) { // P6.1, P6.2
	l := someHashes(rand.New(rand.NewSource(1)), 6)
	x, y, z, w, a, b := l[0], l[1], l[2], l[3], l[4], l[5]
	xy, zw := plainNode(x, y), plainNode(z, w)
	three, four := plainNode(xy, z), plainNode(xy, zw)
	included(t, true, x, 0, 1, nil, x)
	included(t, true, x, 0, 1, []api.Hash{}, x)
	included(t, false, x, 0, 1, []api.Hash{y}, x)
	included(t, true, z, 2, 3, []api.Hash{xy}, three)
	included(t, true, x, 0, 3, []api.Hash{y, z}, three)
	included(t, false, x, -1, 1, nil, x)
	included(t, false, x, 1, 1, nil, x)
	consistent(t, true, 2, 3, xy, three, []api.Hash{z})
	consistent(t, true, 3, 4, three, four, []api.Hash{z, w, xy})
	consistent(t, true, 3, 3, a, a, nil)
	consistent(t, true, 0, 3, tree.Root(nil), b, nil)
	consistent(t, false, 4, 3, a, b, nil)
}

// RFC 9162, 2.1.5: a tree of seven leaves, and the proofs that are told there.
func TestSevenLeaves(t *testing.T) { // P6.1, P6.2
	l := someHashes(rand.New(rand.NewSource(2)), 7)
	a, b, c, d, e, f, j := l[0], l[1], l[2], l[3], l[4], l[5], l[6]
	g, h, i := plainNode(a, b), plainNode(c, d), plainNode(e, f)
	k, left := plainNode(i, j), plainNode(g, h)
	root := plainNode(left, k)
	included(t, true, a, 0, 7, []api.Hash{b, h, k}, root)
	included(t, true, d, 3, 7, []api.Hash{c, g, k}, root)
	included(t, true, e, 4, 7, []api.Hash{f, j, left}, root)
	included(t, true, j, 6, 7, []api.Hash{i, left}, root)
	consistent(t, true, 3, 7, plainNode(g, c), root, []api.Hash{c, d, g, k})
	consistent(t, true, 4, 7, left, root, []api.Hash{k})
	consistent(t, true, 6, 7, plainNode(left, i), root, []api.Hash{i, j, left})
}

func TestInclusionOfFew(t *testing.T) { // P6.1
	l := someHashes(rand.New(rand.NewSource(3)), 2)
	x, y := l[0], l[1]
	xy := plainNode(x, y)
	included(t, false, x, 0, 0, nil, x)
	included(t, false, x, 0, 0, nil, tree.Root(nil))
	included(t, false, x, 0, 1, nil, y)
	included(t, false, x, 0, 1, []api.Hash{x}, x)
	included(t, true, x, 0, 2, []api.Hash{y}, xy)
	included(t, true, y, 1, 2, []api.Hash{x}, xy)
	included(t, false, y, 0, 2, []api.Hash{x}, xy)
	included(t, false, x, 1, 2, []api.Hash{y}, xy)
	included(t, false, x, 0, 2, nil, x)
	included(t, false, x, 1, 2, nil, x)
	included(t, false, y, 2, 2, []api.Hash{x}, xy)
	included(t, false, y, -1, 2, []api.Hash{x}, xy)
	included(t, false, xy, 0, 2, nil, xy)
}

func TestConsistencyOfFew(t *testing.T) { // P6.2
	l := someHashes(rand.New(rand.NewSource(4)), 3)
	x, y, z := l[0], l[1], l[2]
	xy := plainNode(x, y)
	three := plainNode(xy, z)
	consistent(t, true, 1, 1, x, x, nil)
	consistent(t, false, 1, 1, x, y, nil)
	consistent(t, false, 1, 1, x, x, []api.Hash{x})
	consistent(t, true, 1, 2, x, xy, []api.Hash{y})
	consistent(t, false, 1, 2, y, xy, []api.Hash{x})
	consistent(t, false, 1, 2, x, x, nil)
	consistent(t, true, 1, 3, x, three, []api.Hash{y, z})
	consistent(t, true, 2, 3, xy, three, []api.Hash{z})
	consistent(t, false, 2, 3, xy, xy, nil)
	// Where the first leaves are no full tree, the last full one of them is told,
	// and where they are one, it is not.
	consistent(t, false, 2, 3, xy, three, []api.Hash{xy, z})
	consistent(t, false, 3, 4, three, plainNode(three, x), []api.Hash{x})
}

func TestProvedInclusionIsHeld(t *testing.T) { // P6.3
	r := rand.New(rand.NewSource(5))
	for _, n := range someSizes() {
		l := someHashes(r, n)
		root := tree.Root(l)
		for _, m := range somePlaces(r, n) {
			if m == n {
				continue
			}
			p, e := tree.Inclusion(l, m)
			if e != api.OK {
				t.Fatalf("%d leaves, %d: %v", n, m, e)
			}
			included(t, true, l[m], m, n, p, root)
		}
	}
}

func TestProvedConsistencyIsHeld(t *testing.T) { // P6.3
	r := rand.New(rand.NewSource(6))
	for _, n := range someSizes() {
		l := someHashes(r, n)
		root := tree.Root(l)
		for _, m := range somePlaces(r, n) {
			p, e := tree.Consistency(l, m)
			if e != api.OK {
				t.Fatalf("%d leaves, %d: %v", n, m, e)
			}
			consistent(t, true, m, n, tree.Root(l[:m]), root, p)
		}
	}
}

// Leaves that are the same, or nought, are leaves like others.
func TestProofsOfLikeLeavesAreHeld(t *testing.T) { // P6.3
	for _, x := range []api.Hash{{}, tree.Leaf(nil), tree.Root(nil)} {
		for n := range 34 {
			l := slices.Repeat([]api.Hash{x}, n)
			for m := range n {
				p, _ := tree.Inclusion(l, m)
				included(t, true, x, m, n, p, tree.Root(l))
				p, _ = tree.Consistency(l, m)
				consistent(t, true, m, n, tree.Root(l[:m]), tree.Root(l), p)
			}
		}
	}
}

// Of numbers that no row of leaves can have, too, up to the greatest int.
func TestInclusionOfEverySize(t *testing.T) { // P6.1
	r := rand.New(rand.NewSource(7))
	for _, pair := range somePairs(r, 0) {
		m, n := pair[0], pair[1]
		leaf, proof, root := inclusionOf(r, m, n)
		if len(proof) > 63 {
			t.Fatalf("%d of %d: %d hashes", m, n, len(proof))
		}
		included(t, true, leaf, m, n, proof, root)
	}
}

func TestConsistencyOfEverySize(t *testing.T) { // P6.2
	r := rand.New(rand.NewSource(8))
	for _, pair := range somePairs(r, 1) {
		m, n := pair[0], pair[1]
		a, b, proof := consistencyOf(r, m, n)
		if len(proof) > 64 {
			t.Fatalf("%d of %d: %d hashes", m, n, len(proof))
		}
		consistent(t, true, m, n, a, b, proof)
	}
}

// No numbers are taken but those of a place: not even where a leaf is the root.
func TestInclusionOfNoPlace(t *testing.T) { // P6.1
	x := api.Hash{1}
	numbers := append(farSizes(), -1, -2, -3, -64, math.MinInt, math.MinInt+1, math.MinInt+2, math.MinInt32, 0, 1, 2, 3, 4)
	for _, n := range numbers {
		for _, m := range append(numbers, n-1, n, n+1, -n, -n-1) {
			for count := range 4 {
				proof := slices.Repeat([]api.Hash{x}, count)
				want := m == 0 && n == 1 && count == 0
				included(t, want, x, m, n, proof, x)
				if m < 0 || m >= n {
					included(t, false, x, m, n, proof, tree.Root(proof))
					included(t, false, x, m, n, proof, tree.Root(nil))
				}
			}
		}
	}
}

func TestInclusionJustOutside(t *testing.T) { // P6.1
	r := rand.New(rand.NewSource(9))
	for n := 1; n < 40; n++ {
		l := someHashes(r, n)
		root := tree.Root(l)
		for m := range n {
			p, _ := tree.Inclusion(l, m)
			for _, wrong := range []int{-1, -m - 1, m - n, m + math.MinInt, n, n + 1, n + m + 1, m + 256, m + 1<<32, m + 1<<62, math.MaxInt} {
				if wrong < 0 || wrong >= n {
					included(t, false, l[m], wrong, n, p, root)
				}
			}
			for _, wrong := range []int{-1, 0, m, -n, n + math.MinInt, math.MinInt} {
				included(t, false, l[m], m, wrong, p, root)
			}
		}
	}
}

func TestConsistencyOfNoSize(t *testing.T) { // P6.2
	r := rand.New(rand.NewSource(10))
	for n := range 40 {
		l := someHashes(r, n)
		root := tree.Root(l)
		for m := range n + 1 {
			p, _ := tree.Consistency(l, m)
			a := tree.Root(l[:m])
			for _, wrong := range []int{-1, -m - 1, m + math.MinInt, math.MinInt, n + 1, n + 2, n + m + 1, n + 256, n + 1<<32, n + 1<<62, math.MaxInt} {
				consistent(t, false, wrong, n, a, root, p)
				consistent(t, false, wrong, n, root, root, nil)
				consistent(t, false, wrong, n, tree.Root(nil), tree.Root(nil), nil)
			}
			for _, wrong := range []int{-1, m - 1, -n - 1, n + math.MinInt, math.MinInt} {
				consistent(t, false, m, wrong, a, root, p)
				consistent(t, false, m, wrong, a, a, nil)
			}
		}
	}
	for _, n := range []int{-1, -2, math.MinInt, math.MinInt + 1} {
		consistent(t, false, n, n, api.Hash{1}, api.Hash{1}, nil)
		consistent(t, false, n, n, tree.Root(nil), tree.Root(nil), nil)
		consistent(t, false, 0, n, tree.Root(nil), tree.Root(nil), nil)
	}
}

// None of n leaves: that is held of whatever root they have, unless n is 0.
func TestConsistencyOfNone(t *testing.T) { // P6.2
	none, x := api.Hash(sha256.Sum256(nil)), api.Hash{1}
	for _, n := range append(someSizes(), farSizes()...) {
		for _, proof := range [][]api.Hash{nil, {}, make([]api.Hash, 0, 3)} {
			consistent(t, true, 0, n, none, none, proof)
			consistent(t, n > 0, 0, n, none, x, proof)
			consistent(t, n > 0, 0, n, none, api.Hash{}, proof)
			for _, a := range []api.Hash{{}, x, tree.Leaf(nil), turned(none, 0), turned(none, 255)} {
				consistent(t, false, 0, n, a, x, proof)
				consistent(t, false, 0, n, a, a, proof)
				consistent(t, false, 0, n, a, none, proof)
			}
		}
		for _, h := range []api.Hash{none, x, {}} {
			consistent(t, false, 0, n, none, none, []api.Hash{h})
			consistent(t, false, 0, n, none, h, []api.Hash{h, h})
		}
	}
}

func TestConsistencyOfAll(t *testing.T) { // P6.2
	r := rand.New(rand.NewSource(11))
	for _, n := range append(someSizes(), farSizes()...) {
		if n == 0 {
			continue
		}
		for _, a := range append(someHashes(r, 2), api.Hash{}, tree.Root(nil)) {
			consistent(t, true, n, n, a, a, nil)
			consistent(t, true, n, n, a, a, []api.Hash{})
			for bit := range 256 {
				consistent(t, false, n, n, a, turned(a, bit), nil)
			}
			consistent(t, false, n, n, a, a, []api.Hash{a})
			consistent(t, false, n, n, a, plainNode(a, a), []api.Hash{a})
			consistent(t, false, n, n, a, a, slices.Repeat([]api.Hash{a}, 63))
		}
	}
}

func TestInclusionHoldsNothingElse(t *testing.T) { // P6.4
	r := rand.New(rand.NewSource(12))
	for _, pair := range somePairs(r, 0) {
		m, n := pair[0], pair[1]
		leaf, proof, root := inclusionOf(r, m, n)
		included(t, false, leaf, m, n, proof, turned(root, r.Intn(256)))
		included(t, false, leaf, m, n, proof, api.Hash{})
		included(t, false, turned(leaf, r.Intn(256)), m, n, proof, root)
		if n > 1 {
			included(t, false, leaf, m, n, proof, leaf)
			included(t, false, root, m, n, proof, root)
		}
		for _, at := range someAt(r, len(proof)) {
			included(t, false, leaf, m, n, turnedIn(proof, at, r.Intn(256)), root)
		}
		for _, at := range someAt(r, len(proof)-1) {
			swapped := slices.Clone(proof)
			swapped[at], swapped[at+1] = swapped[at+1], swapped[at]
			included(t, false, leaf, m, n, swapped, root)
		}
	}
}

func TestConsistencyHoldsNothingElse(t *testing.T) { // P6.4
	r := rand.New(rand.NewSource(13))
	for _, pair := range somePairs(r, 1) {
		m, n := pair[0], pair[1]
		a, b, proof := consistencyOf(r, m, n)
		consistent(t, false, m, n, a, turned(b, r.Intn(256)), proof)
		consistent(t, false, m, n, turned(a, r.Intn(256)), b, proof)
		consistent(t, false, m, n, a, a, proof)
		consistent(t, false, m, n, b, b, proof)
		consistent(t, false, m, n, b, a, proof)
		consistent(t, false, m, n, a, api.Hash{}, proof)
		consistent(t, false, m, n, api.Hash{}, b, proof)
		for _, at := range someAt(r, len(proof)) {
			consistent(t, false, m, n, a, b, turnedIn(proof, at, r.Intn(256)))
		}
		for _, at := range someAt(r, len(proof)-1) {
			swapped := slices.Clone(proof)
			swapped[at], swapped[at+1] = swapped[at+1], swapped[at]
			consistent(t, false, m, n, a, b, swapped)
		}
	}
}

// A hash is compared in all its bits.
func TestEveryBitCounts(t *testing.T) { // P6.4
	r := rand.New(rand.NewSource(14))
	for _, pair := range [][2]int{{0, 1}, {0, 2}, {2, 3}, {3, 4}, {4, 7}, {6, 7}} {
		m, n := pair[0], pair[1]
		leaf, proof, root := inclusionOf(r, m, n)
		for bit := range 256 {
			included(t, false, turned(leaf, bit), m, n, proof, root)
			included(t, false, leaf, m, n, proof, turned(root, bit))
		}
		if m == 0 {
			continue
		}
		a, b, proof := consistencyOf(r, m, n)
		for bit := range 256 {
			consistent(t, false, m, n, turned(a, bit), b, proof)
			consistent(t, false, m, n, a, turned(b, bit), proof)
			for at := range proof {
				consistent(t, false, m, n, a, b, turnedIn(proof, at, bit))
			}
		}
	}
}

// A row that leads to the new root alone, or to the old one alone, is none.
func TestBothWaysCount(t *testing.T) { // P6.2, P6.4
	r := rand.New(rand.NewSource(15))
	for _, pair := range somePairs(r, 1) {
		m, n := pair[0], pair[1]
		a, b, proof := consistencyOf(r, m, n)
		other := someHashes(r, 1)[0]
		older, newer, _ := plainWays(m, n, other, proof)
		consistent(t, older == other, m, n, other, newer, proof)
		consistent(t, false, m, n, a, other, proof)
		if m&(m-1) != 0 {
			consistent(t, false, m, n, other, b, proof)
		}
	}
}

// Nor is the proof of one place that of another one, nor is a leaf's that of the
// leaf beside it.
func TestInclusionOfAnotherPlace(t *testing.T) { // P6.4
	r := rand.New(rand.NewSource(16))
	for n := 2; n < 34; n++ {
		l := someHashes(r, n)
		root := tree.Root(l)
		for m := range n {
			p, _ := tree.Inclusion(l, m)
			for i := range n {
				if i != m {
					included(t, false, l[i], m, n, p, root)
					included(t, false, l[m], i, n, p, root)
				}
			}
			included(t, false, l[m], m, n, p, tree.Root(l[:n-1]))
			included(t, false, l[m], m, n, p, tree.Root(nil))
		}
	}
}

func TestConsistencyOfAnotherRow(t *testing.T) { // P6.4
	r := rand.New(rand.NewSource(17))
	for n := 2; n < 34; n++ {
		l := someHashes(r, n)
		root := tree.Root(l)
		for m := 1; m < n; m++ {
			p, _ := tree.Consistency(l, m)
			a := tree.Root(l[:m])
			for i := range n {
				if i != m {
					consistent(t, false, m, n, tree.Root(l[:i]), root, p)
				}
				consistent(t, false, m, n, a, tree.Root(l[:i]), p)
			}
			changed := slices.Clone(l)
			at := r.Intn(m)
			changed[at] = turned(changed[at], r.Intn(256))
			consistent(t, false, m, n, tree.Root(changed[:m]), root, p)
			consistent(t, false, m, n, a, tree.Root(changed), p)
		}
	}
}

func TestInclusionCounts(t *testing.T) { // P6.5
	r := rand.New(rand.NewSource(18))
	for _, pair := range somePairs(r, 0) {
		m, n := pair[0], pair[1]
		leaf, proof, root := inclusionOf(r, m, n)
		for _, wrong := range otherCounts(r, proof) {
			if len(wrong) == len(proof) {
				continue
			}
			included(t, false, leaf, m, n, wrong, root)
			// What a way that is too short, or too long, has come to is no root.
			h, there := plainWay(leaf, m, n, wrong)
			if there {
				t.Fatalf("%d of %d: %d hashes", m, n, len(wrong))
			}
			included(t, false, leaf, m, n, wrong, h)
		}
	}
}

func TestConsistencyCounts(t *testing.T) { // P6.5
	r := rand.New(rand.NewSource(19))
	for _, pair := range somePairs(r, 1) {
		m, n := pair[0], pair[1]
		a, b, proof := consistencyOf(r, m, n)
		for _, wrong := range otherCounts(r, proof) {
			if len(wrong) == len(proof) {
				continue
			}
			consistent(t, false, m, n, a, b, wrong)
			older, newer, there := plainWays(m, n, a, wrong)
			if there {
				t.Fatalf("%d of %d: %d hashes", m, n, len(wrong))
			}
			consistent(t, false, m, n, older, newer, wrong)
			consistent(t, false, m, n, a, newer, wrong)
		}
	}
}

// A row that is too long by its first hash, or by its last one, leads nowhere,
// though the rest of it would.
func TestPartOfAProofIsNotTaken(t *testing.T) { // P6.5
	r := rand.New(rand.NewSource(20))
	for n := 1; n < 34; n++ {
		for m := range n {
			row := someHashes(r, inclusionCount(m, n)+4)
			leaf := someHashes(r, 1)[0]
			for from := range len(row) {
				for to := from; to <= len(row); to++ {
					root, there := plainWay(leaf, m, n, row[from:to])
					if there {
						included(t, true, leaf, m, n, row[from:to], root)
						included(t, false, leaf, m, n, row, root)
					}
				}
			}
		}
	}
}

// Rows of all lengths, of few hashes that meet often, with whatever they may lead
// to as roots: what is answered is what RFC 9162 answers.
func TestAgainstThePlainOnes(t *testing.T) { // P6.1, P6.2, P6.4, P6.5
	r := rand.New(rand.NewSource(21))
	pool := append(someHashes(r, 2), tree.Root(nil))
	for range 20000 {
		n := r.Intn(20) - 1
		m := r.Intn(n+4) - 1
		row := make([]api.Hash, r.Intn(7))
		for i := range row {
			row[i] = pool[r.Intn(len(pool))]
		}
		ends := slices.Clone(pool)
		x := pool[r.Intn(len(pool))]
		if m >= 0 && m < n {
			h, _ := plainWay(x, m, n, row)
			ends = append(ends, h)
		}
		if m > 0 && m < n {
			older, newer, _ := plainWays(m, n, x, row)
			ends = append(ends, older, newer)
		}
		for _, a := range ends {
			included(t, plainInclusion(x, m, n, row, a), x, m, n, row, a)
			for _, b := range ends {
				consistent(t, plainConsistency(m, n, a, b, row), m, n, a, b, row)
			}
		}
	}
}

// fastest is the shortest time in which a thing was done many times.
func fastest(do func()) time.Duration {
	best := time.Duration(math.MaxInt64)
	for range 12 {
		begin := time.Now()
		for range 60 {
			do()
		}
		best = min(best, time.Since(begin))
	}
	return best
}

// Wrong counts are told without a hash: in far less time than the proof takes
// that is right, though the numbers are as great, and the rows longer.
func TestCountsAreToldAheadOfHashes(t *testing.T) { // P6.1, P6.2
	r := rand.New(rand.NewSource(22))
	for _, pair := range [][2]int{{0, math.MaxInt}, {1<<62 - 1, math.MaxInt}, {math.MaxInt - 1, math.MaxInt}, {1<<61 - 1, 1<<62 - 1}, {1, 1 << 62}} {
		m, n := pair[0], pair[1]
		leaf, proof, root := inclusionOf(r, m, n)
		right := fastest(func() { included(t, true, leaf, m, n, proof, root) })
		for _, wrong := range [][]api.Hash{proof[1:], append(proof[:len(proof):len(proof)], leaf), make([]api.Hash, 1<<20)} {
			if took := fastest(func() { included(t, false, leaf, m, n, wrong, root) }); took > right/3 {
				t.Errorf("Inclusion, %d of %d: %v with %d hashes, %v with %d", m, n, took, len(wrong), right, len(proof))
			}
		}
		if m == 0 {
			m++
		}
		a, b, proof := consistencyOf(r, m, n)
		right = fastest(func() { consistent(t, true, m, n, a, b, proof) })
		for _, wrong := range [][]api.Hash{proof[1:], append(proof[:len(proof):len(proof)], leaf), make([]api.Hash, 1<<20)} {
			if took := fastest(func() { consistent(t, false, m, n, a, b, wrong) }); took > right/3 {
				t.Errorf("Consistency, %d of %d: %v with %d hashes, %v with %d", m, n, took, len(wrong), right, len(proof))
			}
		}
	}
}

func TestProofsAreLeftAlone(t *testing.T) { // R6
	r := rand.New(rand.NewSource(23))
	for _, pair := range somePairs(r, 1) {
		m, n := pair[0], pair[1]
		leaf, proof, root := inclusionOf(r, m, n)
		a, b, steps := consistencyOf(r, m, n)
		for _, row := range [][]api.Hash{proof, steps} {
			room := append(slices.Clone(row), someHashes(r, 3)...)
			ahead := slices.Clone(room)
			for _, part := range [][]api.Hash{room[:len(row)], room[:len(row)-1], room[:len(row)+1]} {
				Inclusion(leaf, m, n, part, root)
				Consistency(m, n, a, b, part)
			}
			if !slices.Equal(room, ahead) {
				t.Fatalf("%d of %d: the proof, or the room behind it, was changed", m, n)
			}
		}
	}
}

// A hash that is missing is not found in the room behind.
func TestRoomBehindIsNotRead(t *testing.T) { // R6
	r := rand.New(rand.NewSource(24))
	for _, pair := range somePairs(r, 1) {
		m, n := pair[0], pair[1]
		leaf, proof, root := inclusionOf(r, m, n)
		a, b, steps := consistencyOf(r, m, n)
		for less := range len(proof) {
			included(t, false, leaf, m, n, proof[:less], root)
		}
		for less := range len(steps) {
			consistent(t, false, m, n, a, b, steps[:less])
		}
		proof, steps = append(proof, leaf), append(steps, a)
		included(t, true, leaf, m, n, proof[:len(proof)-1], root)
		consistent(t, true, m, n, a, b, steps[:len(steps)-1])
	}
}
