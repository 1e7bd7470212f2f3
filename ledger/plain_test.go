package ledger

import (
	"crypto/sha256"
	"math"
	"math/rand"
	"slices"
	"strings"
	"testing"

	"muniment/api"
	"muniment/catalog"
	"muniment/plant"
	"muniment/tree"
	"muniment/verify"
)

// plain is a ledger as the chapter's words have it: a row of all entries. What is asked
// of a beginning of it is worked out of that one, anew each time.
type plain []string

func (m plain) leaves(size int) []api.Hash {
	l := []api.Hash{}
	for _, s := range m[:size] {
		l = append(l, sha256.Sum256([]byte("\x00"+s)))
	}
	return l
}

func (m plain) has(size int) bool { return size >= 0 && size <= len(m) }

func (m plain) head(size int) (api.Head, api.Errno) {
	if !m.has(size) {
		return api.Head{}, 50
	}
	return api.Head{Size: size, Root: rootOf(m.leaves(size))}, 0
}

func (m plain) inclusion(i, size int) ([]api.Hash, api.Errno) {
	if !m.has(size) || i < 0 || i >= size {
		return nil, 50
	}
	return tree.Inclusion(m.leaves(size), i)
}

func (m plain) consistency(first, all int) ([]api.Hash, api.Errno) {
	if !m.has(all) || first < 0 || first > all {
		return nil, 50
	}
	return tree.Consistency(m.leaves(all), first)
}

// key is that of the entry behind all others.
func (m plain) key() string { return key(len(m)) }

// key is worked out one digit of 256 at a time.
func key(n int) string {
	s := ""
	for range 4 {
		s = string([]byte{byte(n % 256)}) + s
		n /= 256
	}
	return "l" + s
}

// rootOf goes from the leaves up, one level at a time; the last one of a level goes up
// alone where it has no other beside it. It is the same root as the one that is told from
// above down.
func rootOf(l []api.Hash) api.Hash {
	if len(l) == 0 {
		return sha256.Sum256(nil)
	}
	for len(l) > 1 {
		var up []api.Hash
		for pair := range slices.Chunk(l, 2) {
			if len(pair) == 2 {
				b := append([]byte{1}, pair[0][:]...)
				pair[0] = sha256.Sum256(append(b, pair[1][:]...))
			}
			up = append(up, pair[0])
		}
		l = up
	}
	return l[0]
}

func ok(t *testing.T, e api.Errno) {
	t.Helper()
	if e != api.OK {
		t.Fatalf("error %d", e)
	}
}

// formatted has room for keys.
func formatted(t *testing.T, keys int) (*plant.Plant, *catalog.Catalog) {
	t.Helper()
	p, e := plant.New(api.Shape{Disks: []int{64, max(386, 2+8*(keys+16))}})
	ok(t, e)
	ok(t, catalog.Format(p, 0, 1))
	return p, catalogue(t, p)
}

func catalogue(t *testing.T, p *plant.Plant) *catalog.Catalog {
	t.Helper()
	c, e := catalog.Open(p, 0, 1)
	ok(t, e)
	return c
}

func opens(t *testing.T, c *catalog.Catalog) *Ledger {
	t.Helper()
	l, e := Open(c)
	if l == nil || e != api.OK {
		t.Fatalf("Open: %v, %d", l, e)
	}
	return l
}

func opensNot(t *testing.T, c *catalog.Catalog, want api.Errno) {
	t.Helper()
	if l, e := Open(c); l != nil || e != want {
		t.Fatalf("Open: %v, %d; want %d", l, e, want)
	}
}

// lays applies the change of the next entry, and lets the ledger grow.
func lays(t *testing.T, c *catalog.Catalog, l *Ledger, m *plain, entry string) {
	t.Helper()
	ok(t, c.Apply([]api.Change{next(t, l, *m, entry)}))
	grows(t, l, m, entry)
}

// next is what Next answers, held against what it is to be.
func next(t *testing.T, l *Ledger, m plain, entry string) api.Change {
	t.Helper()
	b := roomy(entry)
	x, e := l.Next(b)
	unspoiled(t, b, entry)
	if e != api.OK || string(x.Key) != m.key() || string(x.Value) != entry || x.Gone {
		t.Fatalf("Next(%x) of %d: %v, %d", entry, len(m), x, e)
	}
	spoil(b)
	if string(x.Key) != m.key() || string(x.Value) != entry {
		t.Fatalf("Next(%x) of %d: it was turned: %v", entry, len(m), x)
	}
	return x
}

// grows hands bytes in, and spoils them behind the call.
func grows(t *testing.T, l *Ledger, m *plain, entry string) {
	t.Helper()
	b := roomy(entry)
	l.Grow(b)
	unspoiled(t, b, entry)
	spoil(b)
	*m = append(*m, entry)
	if l.Size() != len(*m) {
		t.Fatalf("Size: %d; want %d", l.Size(), len(*m))
	}
}

// roomy has the entry's bytes, and room behind them.
func roomy(entry string) []byte { return []byte(entry + "room")[:len(entry)] }

func unspoiled(t *testing.T, b []byte, entry string) {
	t.Helper()
	if string(b) != entry || string(b[:len(b)+4]) != entry+"room" {
		t.Fatalf("what was handed in is changed: %x; was %x", b[:len(b)+4], entry)
	}
}

// spoil turns all bytes, those of the spare room too.
func spoil(b []byte) {
	b = b[:cap(b)]
	for i := range b {
		b[i] ^= 0xa5
	}
}

func spoilHashes(l []api.Hash) {
	l = l[:cap(l)]
	for i := range l {
		spoil(l[i][:])
	}
}

func grown(t *testing.T, entries ...string) (*Ledger, plain) {
	t.Helper()
	_, c := formatted(t, 0)
	l, m := opens(t, c), plain{}
	for _, s := range entries {
		grows(t, l, &m, s)
	}
	return l, m
}

// entryIs asks twice, and spoils the first answer.
func entryIs(t *testing.T, l *Ledger, m plain, i int) {
	t.Helper()
	for range 2 {
		b, e := l.Entry(i)
		switch there := i >= 0 && i < len(m); {
		case there && (e != api.OK || string(b) != m[i]):
			t.Fatalf("Entry(%d) of %d: %x, %d; want %x", i, len(m), b, e, m[i])
		case !there && (e != 50 || b != nil):
			t.Fatalf("Entry(%d) of %d: %x, %d; want ErrTree", i, len(m), b, e)
		}
		spoil(b)
	}
}

func headIs(t *testing.T, l *Ledger, m plain, size int) {
	t.Helper()
	h, e := l.Head(size)
	if want, f := m.head(size); h != want || e != f {
		t.Fatalf("Head(%d) of %d: %v, %d; want %v, %d", size, len(m), h, e, want, f)
	}
}

// inclusionIs asks twice, and spoils the first answer.
func inclusionIs(t *testing.T, l *Ledger, m plain, i, size int) {
	t.Helper()
	want, f := m.inclusion(i, size)
	for range 2 {
		got, e := l.Inclusion(i, size)
		if !slices.Equal(got, want) || e != f || e != api.OK && got != nil {
			t.Fatalf("Inclusion(%d, %d) of %d: %v, %d; want %v, %d", i, size, len(m), got, e, want, f)
		}
		spoilHashes(got)
	}
}

func consistencyIs(t *testing.T, l *Ledger, m plain, first, all int) {
	t.Helper()
	want, f := m.consistency(first, all)
	for range 2 {
		got, e := l.Consistency(first, all)
		if !slices.Equal(got, want) || e != f || e != api.OK && got != nil {
			t.Fatalf("Consistency(%d, %d) of %d: %v, %d; want %v, %d", first, all, len(m), got, e, want, f)
		}
		spoilHashes(got)
	}
}

// edges are the numbers that a size is held against, and those beside them.
func edges(size int) []int {
	l := []int{math.MinInt, math.MinInt + 1, -1 << 32, -257, -2, -1, 0, 1, 2, size/2 - 1, size / 2,
		size - 2, size - 1, size, size + 1, size + 2, 2 * size, 256, 1 << 16, 1 << 32, math.MaxInt - 1, math.MaxInt}
	slices.Sort(l)
	return slices.Compact(l)
}

// same asks all that can be asked at the edges.
func same(t *testing.T, l *Ledger, m plain) {
	t.Helper()
	if l.Size() != len(m) {
		t.Fatalf("Size: %d; want %d", l.Size(), len(m))
	}
	for i := range m {
		entryIs(t, l, m, i)
	}
	for _, n := range edges(len(m)) {
		entryIs(t, l, m, n)
		headIs(t, l, m, n)
		for _, x := range append(edges(len(m)), n-1, n, n+1) {
			inclusionIs(t, l, m, x, n)
			consistencyIs(t, l, m, x, n)
		}
	}
	next(t, l, m, "more")
}

// all asks each size, and each pair of numbers up to two above it.
func all(t *testing.T, l *Ledger, m plain) {
	t.Helper()
	for n := -2; n <= len(m)+2; n++ {
		entryIs(t, l, m, n)
		headIs(t, l, m, n)
		for x := -2; x <= len(m)+2; x++ {
			inclusionIs(t, l, m, x, n)
			consistencyIs(t, l, m, x, n)
		}
	}
}

// proved holds what a ledger serves against heads that were told by then, by chapter 6.
func proved(t *testing.T, l *Ledger, m plain, heads []api.Head) {
	t.Helper()
	for n, h := range heads {
		for i := range n {
			proof, e := l.Inclusion(i, n)
			entry, _ := l.Entry(i)
			if e != api.OK || !verify.Inclusion(tree.Leaf(entry), i, n, proof, h.Root) {
				t.Fatalf("Inclusion(%d, %d) of %d is not held", i, n, len(m))
			}
			for j := range n {
				if m[j] != m[i] && verify.Inclusion(tree.Leaf([]byte(m[j])), i, n, proof, h.Root) {
					t.Fatalf("Inclusion(%d, %d) of %d is held for the entry %d", i, n, len(m), j)
				}
			}
		}
		for first := range n + 1 {
			proof, e := l.Consistency(first, n)
			if e != api.OK || !verify.Consistency(first, n, heads[first].Root, h.Root, proof) {
				t.Fatalf("Consistency(%d, %d) of %d is not held", first, n, len(m))
			}
		}
	}
}

// someEntry is of few letters, so that some come twice.
func someEntry(r *rand.Rand) string {
	if r.Intn(4) == 0 {
		b := make([]byte, r.Intn(api.MaxValue+1))
		r.Read(b)
		return string(b)
	}
	return strings.Repeat(string("ab\x00\x01l"[r.Intn(5)]), r.Intn(3))
}
