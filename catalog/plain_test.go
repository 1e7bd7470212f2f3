package catalog

import (
	"maps"
	"math/rand"
	"slices"
	"strings"
	"testing"

	"muniment/api"
	"muniment/plant"
)

// plain is a catalogue as the chapter's words have it: keys with values.
type plain map[string]string

// list are the pairs whose key begins with prefix, by rising keys.
func (m plain) list(prefix string) []string {
	var l []string
	for _, k := range slices.Sorted(maps.Keys(m)) {
		if strings.HasPrefix(k, prefix) {
			l = append(l, k, m[k])
		}
	}
	return l
}

// with is m behind changes, and how many keys there are at the most: ahead of them, or
// behind one.
func (m plain) with(l []api.Change) (plain, int) {
	n, most := maps.Clone(m), len(m)
	for _, x := range l {
		if x.Gone {
			delete(n, string(x.Key))
		} else {
			n[string(x.Key)] = string(x.Value)
		}
		most = max(most, len(n))
	}
	return n, most
}

// told are the pairs of an answer, as plain tells them.
func told(pairs []api.Pair) []string {
	var l []string
	for _, p := range pairs {
		l = append(l, string(p.Key), string(p.Value))
	}
	return l
}

// like tells whether c has just m's pairs, asked by List alone.
func (m plain) like(c *Catalog) bool {
	l, e := c.List(nil)
	return e == api.OK && slices.Equal(told(l), m.list(""))
}

// lists holds one List against m.
func lists(t *testing.T, c *Catalog, prefix string, m plain) {
	t.Helper()
	l, e := c.List([]byte(prefix))
	if want := m.list(prefix); e != api.OK || !slices.Equal(told(l), want) {
		t.Fatalf("List(%x): %d, %x; want %x", prefix, e, told(l), want)
	}
}

// same holds c against m by each kind of question.
func same(t *testing.T, c *Catalog, m plain) {
	t.Helper()
	lists(t, c, "", m)
	for k, v := range m {
		gets(t, c, k, v)
		lists(t, c, k, m)
		lists(t, c, k[:len(k)/2], m)
		for _, near := range []string{k[:len(k)-1], k + "\x00", k + "\xff"} {
			if _, is := m[near]; !is {
				getsNot(t, c, near)
			}
		}
	}
}

// certain is for how many keys there is room for certain (P12.5).
func certain(p *plant.Plant, disk int) int {
	pages := min((p.Shape().Disks[disk]-2)/8, 384)
	return (pages - 32) / 3
}

// sizeOf is what changes count.
func sizeOf(l []api.Change) int {
	n := 0
	for _, x := range l {
		n += len(x.Key) + len(x.Value) + 3
	}
	return n
}

// maker makes keys, values and changes of a certain kind.
type maker struct {
	r       *rand.Rand
	letters string
	maxKey  int
	values  []int // lengths; -1 is any
}

func someMaker(r *rand.Rand) maker {
	return maker{
		r:       r,
		letters: []string{"ab", "\x00\x01\xff", "0123456789", "\xfe\xff"}[r.Intn(4)],
		maxKey:  []int{1, 2, 3, 24}[r.Intn(4)],
		values:  [][]int{{0}, {160}, {0, 160}, {0, 1, 159, 160}, {-1}, {0, 0, 0, 0, 160, -1}}[r.Intn(6)],
	}
}

func (k maker) key() string {
	n := 1 + k.r.Intn(k.maxKey)
	if k.r.Intn(4) == 0 {
		n = k.maxKey
	}
	var b strings.Builder
	for range n {
		b.WriteByte(k.letters[k.r.Intn(len(k.letters))])
	}
	return b.String()
}

func (k maker) value() string {
	n := k.values[k.r.Intn(len(k.values))]
	if n < 0 {
		n = k.r.Intn(161)
	}
	return string(someBytes(k.r, n))
}

// known is a key of m more often than not.
func (k maker) known(m plain) string {
	if len(m) == 0 || k.r.Intn(3) == 0 {
		return k.key()
	}
	return slices.Sorted(maps.Keys(m))[k.r.Intn(len(m))]
}

// changes are such as Apply may take, unless there is no room.
func (k maker) changes(m plain) []api.Change {
	var l []api.Change
	for range k.r.Intn(17) {
		x := set(k.known(m), k.value())
		if k.r.Intn(3) == 0 {
			x = gone(k.known(m))
		}
		if sizeOf(append(l, x)) > 1024 {
			break
		}
		l = append(l, x)
	}
	return l
}

// tryApply does changes to both. ErrFull may be answered only where there are more keys
// than there is room for for certain.
func tryApply(t *testing.T, p *plant.Plant, c *Catalog, m plain, l []api.Change) plain {
	t.Helper()
	n, most := m.with(l)
	steps := p.Steps()
	switch e := c.Apply(l); {
	case e == api.OK:
		return n
	case e != api.ErrFull || most <= certain(p, 1):
		t.Fatalf("Apply of %d changes, with %d keys at the most: %d", len(l), most, e)
	case p.Steps() != steps:
		t.Fatalf("Apply did something, and answered ErrFull")
	}
	lists(t, c, "", m)
	return m
}

// anyCalls does calls of all kinds.
func anyCalls(t *testing.T, seed int64, journal, disk, count int) {
	t.Helper()
	r := rand.New(rand.NewSource(seed))
	k := someMaker(r)
	p, c := formatted(t, journal, disk)
	m := plain{}
	for i := range count {
		switch d := r.Intn(24); {
		case d < 16:
			m = tryApply(t, p, c, m, k.changes(m))
		case d < 18:
			lists(t, c, k.known(m)[:1], m)
		case d < 20:
			ok(t, c.Checkpoint())
		case d < 21:
			p.Boot([]int{r.Intn(2), r.Intn(2), r.Intn(2)})
			fallthrough
		case d < 22:
			c = opens(t, p)
		default:
			lists(t, c, k.known(m), m)
		}
		if i%8 == 0 {
			same(t, c, m)
		}
	}
	same(t, c, m)
	p.Boot(nil)
	same(t, opens(t, p), m)
}

func TestAnyCallsAreAsWritten(t *testing.T) { // P12.1 to P12.6, P12.9
	t.Parallel()
	for seed := range int64(100) {
		anyCalls(t, seed, 64+int(seed)%3*7, []int{386, 393, 394, 402, 700}[seed%5], 120)
	}
	for seed := range int64(6) {
		anyCalls(t, seed, 64+100*int(seed), 3074, 400)
	}
}

// TestOneApplyOrSeveral: the same changes, in one Apply, one by one, or in any parts,
// with Checkpoint and Open between them, lead to the same keys.
func TestOneApplyOrSeveral(t *testing.T) { // P12.9
	t.Parallel()
	for seed := range int64(60) {
		r := rand.New(rand.NewSource(seed))
		k := someMaker(r)
		var rows [4]*Catalog
		var plants [4]*plant.Plant
		for i := range rows {
			plants[i], rows[i] = formatted(t, 64, 3074)
		}
		m := plain{}
		for range 12 {
			l := k.changes(m)
			m, _ = m.with(l)
			ok(t, rows[0].Apply(l))
			for _, x := range l {
				ok(t, rows[1].Apply([]api.Change{x}))
			}
			for rest := l; len(rest) > 0; {
				n := 1 + r.Intn(len(rest))
				ok(t, rows[2].Apply(rest[:n]))
				rest = rest[n:]
			}
			for _, x := range l {
				ok(t, rows[3].Apply([]api.Change{x}))
				if r.Intn(3) == 0 {
					ok(t, rows[3].Checkpoint())
				}
				if r.Intn(3) == 0 {
					rows[3] = opens(t, plants[3])
				}
			}
			for i, c := range rows {
				lists(t, c, "", m)
				rows[i] = opens(t, plants[i])
			}
		}
		for _, c := range rows {
			same(t, c, m)
		}
	}
}

// TestAllRowsOfFewChanges: each row of a few changes of two keys, in one Apply and one
// by one, above keys that the tree has, or the journal, or none.
func TestAllRowsOfFewChanges(t *testing.T) { // P12.3, P12.4, P12.9
	t.Parallel()
	kinds := []api.Change{set("a", "1"), set("a", "2"), gone("a"), set("ab", "3"), gone("ab")}
	begin := []func(c *Catalog) plain{
		func(c *Catalog) plain { return plain{} },
		func(c *Catalog) plain {
			ok(t, c.Apply([]api.Change{set("a", "0"), set("b", "0")}))
			return plain{"a": "0", "b": "0"}
		},
		func(c *Catalog) plain {
			ok(t, c.Apply([]api.Change{set("a", "0"), set("b", "0")}))
			ok(t, c.Checkpoint())
			return plain{"a": "0", "b": "0"}
		},
	}
	for row := range 5 * 5 * 5 {
		l := []api.Change{kinds[row%5], kinds[row/5%5], kinds[row/25]}
		for i := range 2 * len(begin) {
			p, c := formatted(t, 64, 386)
			m := begin[i/2](c)
			m, _ = m.with(l)
			if i%2 == 0 {
				ok(t, c.Apply(l))
			} else {
				for _, x := range l {
					ok(t, c.Apply([]api.Change{x}))
				}
			}
			same(t, c, m)
			ok(t, c.Checkpoint())
			same(t, c, m)
			same(t, opens(t, p), m)
		}
	}
}

// TestOpenBehindOpen: it tells the same, however often, with a boot between or not.
func TestOpenBehindOpen(t *testing.T) { // P12.9
	for seed := range int64(20) {
		r := rand.New(rand.NewSource(seed))
		k := someMaker(r)
		p, c := formatted(t, 64, 700)
		m := plain{}
		for range 5 {
			m = tryApply(t, p, c, m, k.changes(m))
			if r.Intn(3) == 0 {
				ok(t, c.Checkpoint())
			}
			for range 3 {
				c = opens(t, p)
				same(t, c, m)
				p.Boot([]int{r.Intn(2)})
			}
			c = opens(t, p)
		}
	}
}
