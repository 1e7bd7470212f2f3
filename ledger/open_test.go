package ledger

import (
	"math/rand"
	"slices"
	"strings"
	"testing"

	"muniment/api"
	"muniment/catalog"
	"muniment/plant"
)

func set(key, value string) api.Change {
	return api.Change{Key: []byte(key), Value: []byte(value)}
}

func gone(key string) api.Change { return api.Change{Key: []byte(key), Gone: true} }

func applies(t *testing.T, c *catalog.Catalog, l ...api.Change) {
	t.Helper()
	for x := range slices.Chunk(l, 4) {
		ok(t, c.Apply(x))
	}
}

// with is a catalogue that has entries of these numbers, and these keys beside them.
func with(t *testing.T, numbers []int, keys ...string) *catalog.Catalog {
	t.Helper()
	_, c := formatted(t, 0)
	for _, n := range numbers {
		applies(t, c, set(key(n), "entry"))
	}
	for _, k := range keys {
		applies(t, c, set(k, "other"))
	}
	return c
}

// stands holds what Open answers of a catalogue, wherever the catalogue has its keys: in
// its journal, in its tree, and when it is opened anew.
func stands(t *testing.T, c *catalog.Catalog, size int, want api.Errno) {
	t.Helper()
	for range 2 {
		if want != api.OK {
			opensNot(t, c, want)
		} else {
			same(t, opens(t, c), slices.Repeat(plain{"entry"}, size))
		}
		ok(t, c.Checkpoint())
	}
}

func count(n int) []int {
	l := []int{}
	for i := range n {
		l = append(l, i)
	}
	return l
}

// TestOtherKeys: what begins with another letter is none of the ledger's, ahead of its
// keys or behind them.
func TestOtherKeys(t *testing.T) { // P19.1
	others := []string{"\x00", "\x00l\x00\x00\x00\x00", "c", "k", "k\xff\xff\xff\xff", "k\xff\xff\xff\xff\xff", "m", "m\x00\x00\x00\x00",
		"L\x00\x00\x00\x00", "oa", "ol", "x\x00\x00\x00\x00\x01\x00l", "\xff", strings.Repeat("\xff", 24)}
	for size := range 4 {
		for _, x := range others {
			stands(t, with(t, count(size), x), size, api.OK)
		}
		stands(t, with(t, count(size), others...), size, api.OK)
	}
}

// TestKeysThatAreNone: a key of the ledger that has not just four bytes behind its letter.
func TestKeysThatAreNone(t *testing.T) { // P19.1
	four := "\x00\x00\x00\x00"
	tails := []string{"", "\x00", "\x00\x00", "\x00\x00\x00", four + "\x00", four + "\xff", four + four, "\xff", "\xff\xff\xff",
		"\xff\xff\xff\xff\xff", "\x00\x00\x00\x01\x00", "\x00\x00\x00\x02\x00", "\x00\x00\x00\x03\x00", "\x00\x00\x01", strings.Repeat("\x00", 23),
		strings.Repeat("\xff", 23)}
	for size := range 4 {
		for _, tail := range tails {
			stands(t, with(t, count(size), "l"+tail), 0, api.ErrCorrupt)
			stands(t, with(t, count(size), "k", "l"+tail, "m"), 0, api.ErrCorrupt)
		}
	}
}

// TestAllSetsOfNumbers: any of the first seven, so that each gap there may be is met.
func TestAllSetsOfNumbers(t *testing.T) { // P19.1
	for set := range 1 << 7 {
		var numbers []int
		for i := range 7 {
			if set>>i&1 == 1 {
				numbers = append(numbers, i)
			}
		}
		want := api.OK
		if set&(set+1) != 0 {
			want = api.ErrCorrupt
		}
		stands(t, with(t, numbers), len(numbers), want)
	}
}

// TestGaps: one number that is missing, and one that is far behind.
func TestGaps(t *testing.T) { // P19.1
	for _, size := range []int{2, 3, 20} {
		for _, gap := range []int{0, size/2 - 1, size / 2, size - 2} {
			if gap < size-1 {
				l := slices.DeleteFunc(count(size), func(i int) bool { return i == gap })
				stands(t, with(t, l), 0, api.ErrCorrupt)
			}
		}
		for _, far := range []int{size + 1, 255, 256, size << 8, size << 16, 1 << 24, 1<<31 - 1, 1<<32 - 1} {
			stands(t, with(t, append(count(size), far)), 0, api.ErrCorrupt)
		}
	}
	for _, alone := range []int{1, 2, 256, 1 << 16, 1 << 24, 1<<32 - 1} {
		stands(t, with(t, []int{alone}), 0, api.ErrCorrupt)
	}
}

// TestInAnyOrder: the numbers say which entry comes first, not the order in which the
// changes were applied.
func TestInAnyOrder(t *testing.T) { // P19.1
	r := rand.New(rand.NewSource(1))
	for range 20 {
		_, c := formatted(t, 0)
		m := make(plain, 12)
		for _, i := range r.Perm(len(m)) {
			m[i] = someEntry(r)
			applies(t, c, set(key(i), m[i]))
			if r.Intn(5) == 0 {
				ok(t, c.Checkpoint())
			}
		}
		same(t, opens(t, c), m)
	}
}

// TestKeysThatAreGone: what the catalogue has now is what counts.
func TestKeysThatAreGone(t *testing.T) { // P19.1
	c := with(t, count(6), "l", "l\x00\x00\x00\x05\x00")
	stands(t, c, 0, api.ErrCorrupt)
	applies(t, c, gone("l"), gone("l\x00\x00\x00\x05\x00"))
	stands(t, c, 6, api.OK)
	applies(t, c, gone(key(5)))
	stands(t, c, 5, api.OK)
	applies(t, c, gone(key(0)))
	stands(t, c, 0, api.ErrCorrupt)
	applies(t, c, set(key(0), "entry"))
	stands(t, c, 5, api.OK)
}

// TestOpenedAnew: a ledger that grew, and those that are opened on its catalogue, in the
// same boot and behind another one.
func TestOpenedAnew(t *testing.T) { // P19.1, P19.5
	t.Parallel()
	r := rand.New(rand.NewSource(2))
	p, c := formatted(t, 300)
	l, m := opens(t, c), plain{}
	applies(t, c, set("c", "2"), set("oa", "record"), set("x\x00\x00\x00\x00\x00\x01a", ""))
	for size := range 290 {
		lays(t, c, l, &m, someEntry(r))
		if size&(size-1) != 0 && size%50 != 0 && (size < 253 || size > 257) {
			continue
		}
		opened := opens(t, c)
		same(t, opened, m)
		p.Boot(nil)
		c = catalogue(t, p)
		same(t, opens(t, c), m)
		if size%3 == 0 {
			l = opened
		}
		if size%2 == 0 {
			ok(t, c.Checkpoint())
		}
	}
	same(t, l, m)
}

// TestTheyGoTheirOwnWays: each of two ledgers of one catalogue has what it was told.
func TestTheyGoTheirOwnWays(t *testing.T) { // P19.2, P19.5
	_, c := formatted(t, 0)
	l, m := opens(t, c), plain{}
	lays(t, c, l, &m, "first")
	other, n := opens(t, c), slices.Clone(m)
	for range 5 {
		grows(t, l, &m, "here")
		grows(t, other, &n, "there")
	}
	grows(t, other, &n, "more")
	same(t, l, m)
	same(t, other, n)
	same(t, opens(t, c), m[:1])
}

// TestTheCatalogueGoesOn: a ledger has what was there when it was opened, and what it
// was told; it asks no device any more.
func TestTheCatalogueGoesOn(t *testing.T) { // P19.1, P19.2
	p, c := formatted(t, 0)
	applies(t, c, set(key(0), "a"), set(key(1), "b"))
	l, m := opens(t, c), plain{"a", "b"}
	applies(t, c, set(key(0), "z"), gone(key(1)), set(key(2), "y"), set("l", "x"))
	same(t, l, m)
	opensNot(t, c, api.ErrCorrupt)
	p.Fuse(0)
	p.Flush(0)
	same(t, l, m)
	grows(t, l, &m, "c")
	same(t, l, m)
}

// TestOpenChangesNothing: of the catalogue and of the devices.
func TestOpenChangesNothing(t *testing.T) { // P19.1
	p, c := formatted(t, 0)
	applies(t, c, set("k", "1"), set(key(0), "a"))
	ok(t, c.Checkpoint())
	applies(t, c, set(key(1), "b"), set("m", "2"))
	for range 3 {
		before, steps := listed(t, c), p.Steps()
		opens(t, c)
		if p.Steps() != steps {
			t.Fatal("Open did a step")
		}
		if after := listed(t, c); !slices.Equal(before, after) {
			t.Fatalf("%q; was %q", after, before)
		}
		applies(t, c, set("l", "corrupt"))
		opensNot(t, c, api.ErrCorrupt)
		applies(t, c, gone("l"))
	}
}

func listed(t *testing.T, c *catalog.Catalog) []string {
	t.Helper()
	l, e := c.List(nil)
	ok(t, e)
	var told []string
	for _, x := range l {
		told = append(told, string(x.Key)+"="+string(x.Value))
	}
	return told
}

// TestPowerOff: Open answers what the catalogue answers, be its keys in the journal, in
// the tree, or in both.
func TestPowerOff(t *testing.T) { // P19.1, R3
	told := map[api.Errno]int{}
	for size := range 12 {
		for checkpoint := -1; checkpoint < size; checkpoint++ {
			p, c := formatted(t, 0)
			l, m := opens(t, c), plain{}
			for i := range size {
				lays(t, c, l, &m, "entry")
				if i == checkpoint {
					ok(t, c.Checkpoint())
				}
			}
			p.Fuse(0)
			p.Flush(1)
			if _, e := c.List([]byte("l")); e != api.OK {
				opensNot(t, c, e)
				told[e]++
			} else {
				same(t, opens(t, c), m)
			}
			p.Boot(nil)
			same(t, opens(t, catalogue(t, p)), m)
		}
	}
	if told[api.ErrPower] < 50 || len(told) > 1 {
		t.Errorf("%v: nothing was shown", told)
	}
}

// TestPowerOffWhileItIsRead: the power goes off behind any number of steps from when the
// catalogue is opened on.
func TestPowerOffWhileItIsRead(t *testing.T) { // P19.1, R3
	for fuse := range 12 {
		p, c := formatted(t, 0)
		l, m := opens(t, c), plain{}
		for range 9 {
			lays(t, c, l, &m, "entry")
		}
		ok(t, c.Checkpoint())
		lays(t, c, l, &m, "last")
		p.Boot(nil)
		p.Fuse(fuse)
		c, e := catalog.Open(p, 0, 1)
		if e == api.ErrPower {
			continue
		}
		ok(t, e)
		if p.On() {
			same(t, opens(t, c), m)
			for p.On() {
				p.Flush(0)
			}
		}
		opensNot(t, c, api.ErrPower)
		p.Boot(nil)
		same(t, opens(t, catalogue(t, p)), m)
	}
}

// TestPowerOffAheadOfCorrupt: what can't be read is not blamed.
func TestPowerOffAheadOfCorrupt(t *testing.T) { // P19.1, R3
	p, c := formatted(t, 0)
	applies(t, c, set(key(0), "a"), set(key(2), "c"), set("l", ""))
	ok(t, c.Checkpoint())
	opensNot(t, c, api.ErrCorrupt)
	p.Fuse(0)
	p.Flush(1)
	opensNot(t, c, api.ErrPower)
}

// TestPowerOffAnywhere: the power goes off at any step while entries are laid down, or
// the journal is emptied; whatever is kept, the ledger that is opened behind that has all
// entries whose change was applied, and of the one at hand all or nothing.
func TestPowerOffAnywhere(t *testing.T) { // P19.1, P19.5, R3
	t.Parallel()
	crashes, laid, lost := 0, 0, 0
	for fuse := range 200 {
		for _, keep := range [][]int{nil, {1}, {0, 1}, {1, 0}, {1, 1, 0}} {
			p, c := formatted(t, 0)
			l, m := opens(t, c), plain{}
			p.Fuse(fuse)
			hand := tillPowerOff(t, c, l, &m)
			if p.On() {
				t.Fatal("the power is on")
			}
			crashes++
			p.Boot(keep)
			l = opens(t, catalogue(t, p))
			if l.Size() > len(m) {
				m = append(m, hand)
				laid++
			} else {
				lost++
			}
			same(t, l, m)
			c = catalogue(t, p)
			for _, s := range []string{"behind", "the", "crash"} {
				lays(t, c, l, &m, s)
			}
			p.Boot(nil)
			same(t, opens(t, catalogue(t, p)), m)
		}
	}
	if laid < 10 || lost < 100 {
		t.Errorf("of %d crashes %d laid, %d lost: nothing was shown", crashes, laid, lost)
	}
}

// tillPowerOff lays entries down, and empties the journal now and then; it tells the
// entry that was at hand.
func tillPowerOff(t *testing.T, c *catalog.Catalog, l *Ledger, m *plain) string {
	t.Helper()
	for {
		entry := strings.Repeat("e", len(*m)*7%160)
		x, e := l.Next([]byte(entry))
		ok(t, e)
		switch e := c.Apply([]api.Change{x}); {
		case e == api.ErrPower:
			return entry
		case e != api.OK:
			t.Fatalf("Apply: %d", e)
		}
		l.Grow([]byte(entry))
		*m = append(*m, entry)
		if len(*m)%5 == 0 && c.Checkpoint() != api.OK {
			// No entry is at hand: none may be there behind this.
			return "none"
		}
	}
}

// TestRot: Open answers the catalogue's error, or ErrCorrupt, or what may be anything;
// nothing panics.
func TestRot(t *testing.T) { // P19.1, R1, R4
	r := rand.New(rand.NewSource(3))
	told := map[api.Errno]int{}
	for range 400 {
		p, c := formatted(t, 0)
		l, m := opens(t, c), plain{}
		for range 20 {
			lays(t, c, l, &m, someEntry(r))
		}
		ok(t, c.Checkpoint())
		for range 1 + r.Intn(200) {
			p.Rot(1, r.Intn(386), r.Intn(64), 1+r.Intn(255))
		}
		told[opensPerhaps(t, c)]++
	}
	if told[api.ErrCorrupt] < 50 || told[api.OK] < 50 || len(told) > 2 {
		t.Errorf("%v: nothing was shown", told)
	}
}

// opensPerhaps asks all of what Open answers, if it does.
func opensPerhaps(t *testing.T, c *catalog.Catalog) api.Errno {
	t.Helper()
	_, want := c.List([]byte("l"))
	l, e := Open(c)
	switch {
	case want != api.OK && e != want:
		t.Fatalf("Open: %d; the catalogue's is %d", e, want)
	case e != api.OK && l != nil:
		t.Fatalf("Open: %v, %d", l, e)
	case e != api.OK:
		return e
	}
	m := plain{}
	for i := range l.Size() {
		b, e := l.Entry(i)
		ok(t, e)
		m = append(m, string(b))
	}
	same(t, l, m)
	return api.OK
}

// TestClones: a ledger of a plant's clone is its own.
func TestClones(t *testing.T) { // P19.5, R7
	p, c := formatted(t, 0)
	l, m := opens(t, c), plain{}
	for _, s := range []string{"a", "b", "c"} {
		lays(t, c, l, &m, s)
	}
	q := p.Clone()
	d := catalogue(t, q)
	k, n := opens(t, d), slices.Clone(m)
	lays(t, c, l, &m, "d")
	lays(t, d, k, &n, "e")
	lays(t, d, k, &n, "f")
	for _, x := range []struct {
		p *plant.Plant
		m plain
	}{{p, m}, {q, n}} {
		x.p.Boot(nil)
		same(t, opens(t, catalogue(t, x.p)), x.m)
	}
	same(t, l, m)
	same(t, k, n)
}
