package ledger

import (
	"encoding/hex"
	"math/rand"
	"slices"
	"strings"
	"testing"

	"muniment/api"
	"muniment/tree"
)

func hash(t *testing.T, s string) api.Hash {
	t.Helper()
	b, err := hex.DecodeString(s)
	if err != nil || len(b) != 32 {
		t.Fatal(s)
	}
	return api.Hash(b)
}

func TestExamples(t *testing.T) { // P19.1 to P19.4
	_, c := formatted(t, 0)
	l := opens(t, c)
	none := hash(t, "e3b0c44298fc1c149afbf4c8996fb92427ae41e4649b934ca495991b7852b855")
	if h, e := l.Head(0); l.Size() != 0 || h != (api.Head{Root: none}) || e != api.OK {
		t.Errorf("of none: %d, %v, %d", l.Size(), h, e)
	}
	if h, e := l.Head(1); h != (api.Head{}) || e != api.ErrTree {
		t.Errorf("Head(1): %v, %d", h, e)
	}
	x, e := l.Next([]byte{0x61})
	if string(x.Key) != "l\x00\x00\x00\x00" || string(x.Value) != "a" || x.Gone || e != api.OK {
		t.Errorf("Next: %v, %d", x, e)
	}
	l.Grow([]byte{0x61})
	l.Grow([]byte{0x62})
	leaf := []api.Hash{tree.Leaf([]byte{0x62})}
	if proof, e := l.Inclusion(0, 2); !slices.Equal(proof, leaf) || e != api.OK {
		t.Errorf("Inclusion: %v, %d", proof, e)
	}
	if proof, e := l.Consistency(1, 2); !slices.Equal(proof, leaf) || e != api.OK {
		t.Errorf("Consistency: %v, %d", proof, e)
	}
}

// TestHeadsThatAreKnown: they are told of these entries wherever there are trees as RFC
// 6962 has them.
func TestHeadsThatAreKnown(t *testing.T) { // P19.3
	l, _ := grown(t, "", "\x00", "\x10", " !", "01", "@ABC", "PQRSTUVW", "`abcdefghijklmno")
	for size, root := range []string{
		"e3b0c44298fc1c149afbf4c8996fb92427ae41e4649b934ca495991b7852b855",
		"6e340b9cffb37a989ca544e6bb780a2c78901d3fb33738768511a30617afa01d",
		"fac54203e7cc696cf0dfcb42c92a1d9dbaf70ad9e621f4bd8d98662f00e3c125",
		"aeb6bcfe274b70a14fb067a5e5578264db0fa9b51af5e0ba159158f329e06e77",
		"d37ee418976dd95753c1c73862b9398fa2a2cf9b4ff0fdfe8b30cd95209614b7",
		"4e3bbb1f7b478dcfe71fb631631519a3bca12c9aefca1612bfce4c13a86264d4",
		"76e67dadbcdf1e10e1b74ddc608abd2f98dfb16fbce75277b5232a127f2087ef",
		"ddb89be403809e325750d3d263cd78929c2942b7942a34b77e122c9594a74c8c",
		"5dc9da79a70659a9ad559cb701ded9a2ab9d823aad2f4960cfe370eff4604328",
	} {
		if h, e := l.Head(size); h != (api.Head{Size: size, Root: hash(t, root)}) || e != api.OK {
			t.Errorf("Head(%d): %v, %d", size, h, e)
		}
	}
}

// TestEveryEdge: of ledgers of all sizes around powers of two, at all edges of numbers.
func TestEveryEdge(t *testing.T) { // P19.2 to P19.4
	r := rand.New(rand.NewSource(1))
	l, m := grown(t)
	for size := range 261 {
		if size < 20 || size&(size-1) < 2 || (size+1)&size == 0 || size > 253 {
			same(t, l, m)
		}
		grows(t, l, &m, someEntry(r))
	}
}

// TestEachPairOfNumbers: all that can be asked, of all short ledgers.
func TestEachPairOfNumbers(t *testing.T) { // P19.3, P19.4
	r := rand.New(rand.NewSource(2))
	l, m := grown(t)
	for range 18 {
		all(t, l, m)
		grows(t, l, &m, someEntry(r))
	}
}

// TestEntriesThatAreTheSame: an entry is told by its number, not by its bytes.
func TestEntriesThatAreTheSame(t *testing.T) { // P19.2 to P19.4
	for _, entry := range []string{"", "\x00", "a", strings.Repeat("z", api.MaxValue)} {
		l, m := grown(t)
		for range 9 {
			grows(t, l, &m, entry)
			all(t, l, m)
			same(t, l, m)
		}
	}
}

// TestAllRowsOfFewEntries: of any of four entries, one behind the other.
func TestAllRowsOfFewEntries(t *testing.T) { // P19.2 to P19.5
	var rows func(row []string)
	rows = func(row []string) {
		l, m := grown(t, row...)
		all(t, l, m)
		if len(row) < 4 {
			for _, s := range []string{"", "a", "b", "aa"} {
				rows(append(slices.Clone(row), s))
			}
		}
	}
	rows(nil)
}

func TestLongEntries(t *testing.T) { // P19.2
	l, m := grown(t, "a", "b")
	for n := range 700 {
		entry := strings.Repeat("e", n)
		if n <= 160 {
			next(t, l, m, entry)
			continue
		}
		b := roomy(entry)
		if x, e := l.Next(b); x.Key != nil || x.Value != nil || x.Gone || e != 5 {
			t.Fatalf("Next of %d bytes: %v, %d", n, x, e)
		}
		unspoiled(t, b, entry)
	}
	same(t, l, m)
}

// TestGrowOfAnything: Grow lays down what it is handed; it is Next that refuses.
func TestGrowOfAnything(t *testing.T) { // P19.2, R1
	l, m := grown(t)
	for _, n := range []int{0, 1, 159, 160, 161, 4096} {
		grows(t, l, &m, strings.Repeat("g", n))
	}
	l.Grow(nil)
	m = append(m, "")
	same(t, l, m)
	if x, e := l.Next(nil); string(x.Key) != m.key() || len(x.Value) > 0 || x.Gone || e != api.OK {
		t.Errorf("Next(nil): %v, %d", x, e)
	}
}

// TestNextLaysNothingDown: it may be asked again and again.
func TestNextLaysNothingDown(t *testing.T) { // P19.2
	p, c := formatted(t, 8)
	l, m := opens(t, c), plain{}
	for range 4 {
		before := p.Steps()
		for _, entry := range []string{"", "a", "b", strings.Repeat("c", 160)} {
			next(t, l, m, entry)
			l.Next([]byte(strings.Repeat("d", 161)))
		}
		all(t, l, m)
		same(t, opens(t, c), m)
		if p.Steps() != before {
			t.Fatal("what was asked did a step")
		}
		lays(t, c, l, &m, "entry")
	}
}

// TestNumbersOfMoreBytes: the highest byte comes first.
func TestNumbersOfMoreBytes(t *testing.T) { // P19.2
	l, m := grown(t)
	for range 1<<16 + 2 {
		switch n := len(m); {
		case n < 3, n&0xff < 2, n&0xff == 0xff:
			next(t, l, m, "x")
		}
		l.Grow(nil)
		m = append(m, "")
	}
	for _, n := range []int{0, 1, 255, 256, 257, 65535, 65536, 65537, 1<<24 - 1, 1 << 24, 1<<24 + 1, 0x01020304, 1<<31 - 1} {
		if got := string(keyOf(n)); got != key(n) {
			t.Errorf("the key of %d: %x; want %x", n, got, key(n))
		}
	}
}

// TestHeadsStay: each head that was ever told is told again, whatever came behind.
func TestHeadsStay(t *testing.T) { // P19.5
	r := rand.New(rand.NewSource(3))
	l, m := grown(t)
	var heads []api.Head
	for range 140 {
		h, e := l.Head(l.Size())
		ok(t, e)
		heads = append(heads, h)
		for size, was := range heads {
			if h, e := l.Head(size); h != was || e != api.OK {
				t.Fatalf("Head(%d) of %d: %v, %d; was %v", size, len(m), h, e, was)
			}
		}
		grows(t, l, &m, someEntry(r))
	}
}

// TestProofsAreHeld: each proof, held by chapter 6 against the heads that were told when
// the ledger had these sizes; and for no other entry.
func TestProofsAreHeld(t *testing.T) { // P19.4, P19.5
	r := rand.New(rand.NewSource(4))
	for _, size := range []int{0, 1, 2, 3, 4, 5, 7, 8, 9, 16, 33} {
		l, m := grown(t)
		heads := []api.Head{{Root: rootOf(nil)}}
		for range size {
			grows(t, l, &m, someEntry(r))
			h, e := l.Head(len(m))
			ok(t, e)
			heads = append(heads, h)
		}
		proved(t, l, m, heads)
	}
}

// TestMemory: what was handed in and what was answered may be turned by the caller.
func TestMemory(t *testing.T) { // R6
	l, m := grown(t)
	for i := range 20 {
		entry := strings.Repeat("m", i)
		x := next(t, l, m, entry)
		spoil(x.Key)
		spoil(x.Value)
		x, y := next(t, l, m, entry), next(t, l, m, entry)
		spoil(x.Key)
		if string(x.Value) != entry {
			t.Fatal("a change's value has its key's memory")
		}
		spoil(x.Value)
		if string(y.Key) != m.key() || string(y.Value) != entry {
			t.Fatal("two changes have one memory")
		}
		grows(t, l, &m, entry)
		a, _ := l.Entry(i)
		b, _ := l.Entry(i)
		spoil(a)
		if string(b) != entry {
			t.Fatal("two answers of Entry have one memory")
		}
		same(t, l, m)
	}
	for _, ask := range []func() ([]api.Hash, api.Errno){
		func() ([]api.Hash, api.Errno) { return l.Inclusion(3, 20) },
		func() ([]api.Hash, api.Errno) { return l.Consistency(7, 20) },
	} {
		a, _ := ask()
		b, _ := ask()
		was := slices.Clone(b)
		spoilHashes(a)
		if !slices.Equal(b, was) {
			t.Fatal("two proofs have one memory")
		}
		if c, _ := ask(); !slices.Equal(c, was) {
			t.Fatal("a proof that was turned turned the ledger's")
		}
	}
	same(t, l, m)
}

// TestAnyCalls: in any order, now and then opened anew.
func TestAnyCalls(t *testing.T) { // P19.1 to P19.5
	t.Parallel()
	for seed := range int64(8) {
		r := rand.New(rand.NewSource(seed))
		p, c := formatted(t, 70)
		l, m := opens(t, c), plain{}
		for range 600 {
			n := func() int {
				if r.Intn(4) == 0 {
					l := edges(len(m))
					return l[r.Intn(len(l))]
				}
				return r.Intn(len(m)+3) - 1
			}
			switch r.Intn(14) {
			case 0, 1:
				if len(m) < 70 {
					lays(t, c, l, &m, someEntry(r))
				}
			case 2:
				next(t, l, m, someEntry(r))
			case 3:
				if x, e := l.Next(make([]byte, 161+r.Intn(200))); x.Key != nil || x.Value != nil || e != 5 {
					t.Fatalf("Next: %v, %d", x, e)
				}
			case 4, 5:
				entryIs(t, l, m, n())
			case 6, 7:
				headIs(t, l, m, n())
			case 8, 9:
				inclusionIs(t, l, m, n(), n())
			case 10, 11:
				consistencyIs(t, l, m, n(), n())
			case 12:
				ok(t, c.Checkpoint())
			default:
				if r.Intn(3) == 0 {
					p.Boot(nil)
					c = catalogue(t, p)
				}
				l = opens(t, c)
			}
		}
		all(t, l, m)
		if len(m) < 40 {
			t.Errorf("%d entries: nothing was shown", len(m))
		}
	}
}
