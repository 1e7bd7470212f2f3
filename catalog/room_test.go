package catalog

import (
	"maps"
	"math/rand"
	"slices"
	"strings"
	"testing"

	"muniment/api"
	"muniment/pager"
)

// diskSizes are sectors of disks: the least, some with a rest that is no page, and such
// as have as many pages as may be.
func diskSizes() []int { return []int{386, 393, 394, 409, 410, 770, 3074, 4096} }

func TestCertain(t *testing.T) { // P12.5
	for size, want := range map[int]int{386: 5, 393: 5, 394: 5, 402: 6, 3074: 117, 4096: 117} {
		if got := certain(made(t, []int{64, size}, nil), 1); got != want {
			t.Errorf("%d keys on %d sectors; want %d", got, size, want)
		}
	}
}

// TestKeysForCertain: as many as there is room for for certain, as long as may be, are
// set, set anew, changed for others, and gone: one by one, and some at a time.
func TestKeysForCertain(t *testing.T) { // P12.5
	t.Parallel()
	for _, size := range diskSizes() {
		for _, at := range []int{1, 2, 5} {
			p, c := formatted(t, 64, size)
			n, m := certain(p, 1), plain{}
			each := func(change func(i int) api.Change) {
				t.Helper()
				for i := 0; i < n; i += at {
					var l []api.Change
					for j := i; j < min(i+at, n); j++ {
						l = append(l, change(j))
					}
					applies(t, c, l...)
					m, _ = m.with(l)
				}
				lists(t, c, "", m)
			}
			value := func(s string) string { return strings.Repeat(s, 160) }
			for round := range 3 {
				each(func(i int) api.Change { return set(key(i, 24), value("a")) })
				each(func(i int) api.Change { return set(key(n-1-i, 24), value("b")) })
				for i := range n {
					l := []api.Change{gone(key(i, 24)), set(key(n+i, 24), value("c"))}
					applies(t, c, l...)
					m, _ = m.with(l)
				}
				if len(m) != n {
					t.Fatalf("%d keys; want %d", len(m), n)
				}
				if round == 1 {
					ok(t, c.Checkpoint())
				}
				each(func(i int) api.Change { return gone(key(n+i*7%n, 24)) })
				each(func(i int) api.Change { return gone(key(n+i, 24)) })
				if len(m) != 0 {
					t.Fatalf("%d keys are left", len(m))
				}
			}
			p.Boot(nil)
			same(t, opens(t, p), m)
		}
	}
}

// within are changes behind each of which there are at most n keys.
func within(k maker, m plain, n int) []api.Change {
	var l []api.Change
	for range 1 + k.r.Intn(16) {
		now, _ := m.with(l)
		x := set(k.key(), k.value())
		if _, is := now[string(x.Key)]; !is && len(now) >= n || k.r.Intn(4) == 0 {
			x = gone(k.known(now))
		}
		if sizeOf(append(l, x)) > 1024 {
			break
		}
		l = append(l, x)
	}
	return l
}

// TestAnyChangesForCertain: ErrFull is never answered, whatever the tree was ahead.
func TestAnyChangesForCertain(t *testing.T) { // P12.5
	t.Parallel()
	for seed := range int64(64) {
		r := rand.New(rand.NewSource(seed))
		size := diskSizes()[seed%8]
		k := maker{r: r, letters: "0123456789", maxKey: []int{2, 3, 24}[r.Intn(3)], values: [][]int{{160}, {0, 160}, {-1}}[r.Intn(3)]}
		p, c := formatted(t, 64, size)
		n, m := certain(p, 1), plain{}
		reached := 0
		for i := range 150 {
			l := within(k, m, n)
			applies(t, c, l...)
			if m, _ = m.with(l); len(m) == n {
				reached++
			}
			if r.Intn(20) == 0 {
				ok(t, c.Checkpoint())
			}
			if r.Intn(20) == 0 {
				c = opens(t, p)
			}
			if i%10 == 0 {
				lists(t, c, "", m)
			}
		}
		if n < 50 && reached < 5 {
			t.Errorf("%d keys were there %d times: nothing was shown", n, reached)
		}
		same(t, c, m)
	}
}

// filled sets keys, each by change, till there is no room; how many there are then.
func filled(t *testing.T, c *Catalog, m plain, change func(i int) api.Change) int {
	t.Helper()
	for i := range 5000 {
		x := change(i)
		e := c.Apply([]api.Change{x})
		if e == api.ErrFull {
			return i
		}
		ok(t, e)
		m[string(x.Key)] = string(x.Value)
	}
	t.Fatalf("it is never full")
	return 0
}

// TestNoRoom: what is refused then has changed nothing; what there is may still be
// changed, and taken away; and a Checkpoint always finds room.
func TestNoRoom(t *testing.T) { // P12.4, P12.5, P12.6
	t.Parallel()
	for _, size := range diskSizes() {
		for _, length := range []int{0, 160} {
			p, c := formatted(t, 64, size)
			m := plain{}
			value := strings.Repeat("v", length)
			n := filled(t, c, m, func(i int) api.Change { return set(key(i, 24), value) })
			if n < certain(p, 1) {
				t.Fatalf("%d keys alone on %d sectors", n, size)
			}
			if pages := min((size-2)/8, 384); n > pages-16 {
				t.Fatalf("%d keys on %d pages: the tree may want room for 16", n, pages)
			}
			for range 3 {
				lists(t, c, "", m)
				appliesNot(t, p, c, api.ErrFull, set("new", ""))
				appliesNot(t, p, c, api.ErrFull, set(key(0, 24), "other"), gone("none"), set("new", ""))
				appliesNot(t, p, c, api.ErrFull, gone(key(0, 24)), set("new", ""), set("newer", ""))
				lists(t, c, "", m)
				ok(t, c.Checkpoint())
			}
			for i := range n {
				l := []api.Change{set(key(i, 24), strings.Repeat("w", 160-length))}
				applies(t, c, l...)
				m, _ = m.with(l)
			}
			same(t, c, m)
			l := []api.Change{gone(key(0, 24)), set("new", "1")}
			applies(t, c, l...)
			m, _ = m.with(l)
			appliesNot(t, p, c, api.ErrFull, set(key(0, 24), ""))
			for i := range n {
				applies(t, c, gone(key(i, 24)))
				delete(m, key(i, 24))
			}
			ok(t, c.Checkpoint())
			same(t, c, m)
			if again := filled(t, c, m, func(i int) api.Change { return set(key(i, 24), value) }); again != n-1 {
				t.Errorf("%d keys behind %d, with one more", again, n)
			}
			same(t, opens(t, p), m)
		}
	}
}

// TestRoomIsTheSameHoweverItIsAsked: whether there is room hangs on the keys alone, not
// on what the journal has, and on how the tree lies.
func TestRoomIsTheSameHoweverItIsAsked(t *testing.T) { // P12.4, P12.9
	t.Parallel()
	for seed := range int64(12) {
		r := rand.New(rand.NewSource(seed))
		k := maker{r: r, letters: "0123456789", maxKey: 2, values: []int{0, 160}}
		p, a := formatted(t, 64, 386)
		q, b := formatted(t, 300, 386)
		m, full := plain{}, 0
		for range 300 {
			l := k.changes(m)
			for i, x := range l {
				if x.Gone && len(m) < 30 { // so that there is no room soon
					l[i] = set(k.key(), "")
				}
			}
			e, f := a.Apply(l), b.Apply(l)
			if e != f {
				t.Fatalf("%d, and %d", e, f)
			}
			if e == api.OK {
				m, _ = m.with(l)
			} else {
				full++
			}
			if r.Intn(4) == 0 {
				ok(t, a.Checkpoint())
			}
			if r.Intn(9) == 0 {
				a, b = opens(t, p), opens(t, q)
			}
		}
		lists(t, a, "", m)
		lists(t, b, "", m)
		if full < 10 || full > 290 {
			t.Errorf("%d of 300 found no room: nothing was shown", full)
		}
	}
}

// TestKeysAboveWhatIsCertainAndBack: a tree that has more keys, of which the journal
// takes most away, has room for others.
func TestKeysAboveWhatIsCertainAndBack(t *testing.T) { // P12.5
	t.Parallel()
	for _, size := range diskSizes() {
		for _, length := range []int{0, 160} {
			for _, checkpoint := range []bool{true, false} {
				p, c := formatted(t, 4096, size)
				m := plain{}
				value := strings.Repeat("v", length)
				n := filled(t, c, m, func(i int) api.Change { return set(key(i, 24), value) })
				ok(t, c.Checkpoint())
				left := certain(p, 1)
				for i := range n {
					if i%(n/left) == 0 && i/(n/left) < left {
						continue // so that what is left is far apart
					}
					applies(t, c, gone(key(i, 24)))
					delete(m, key(i, 24))
				}
				if len(m) != left {
					t.Fatalf("%d keys are left; want %d", len(m), left)
				}
				if checkpoint {
					ok(t, c.Checkpoint())
				}
				for i, k := range slices.Sorted(maps.Keys(m)) {
					l := []api.Change{gone(k), set(key(n+i, 24), strings.Repeat("w", 160)), gone("none")}
					applies(t, c, l...)
					m, _ = m.with(l)
				}
				ok(t, c.Checkpoint())
				same(t, c, m)
				same(t, opens(t, p), m)
			}
		}
	}
}

// TestAllKeysChangedAtOnce: with as many keys as there may be, a long journal takes all
// of them away, and sets as many others; one Checkpoint brings all that to the tree.
func TestAllKeysChangedAtOnce(t *testing.T) { // P12.6
	t.Parallel()
	for _, size := range []int{386, 394, 1000, 3074} {
		for _, length := range []int{0, 90, 160} {
			for _, up := range []bool{true, false} {
				p, c := formatted(t, 4096, size)
				m := plain{}
				value := strings.Repeat("v", length)
				n := filled(t, c, m, func(i int) api.Change { return set(key(2*i, 24), value) })
				ok(t, c.Checkpoint())
				for i := range n {
					other := 2*i + 1
					if !up {
						other = 2*(n-i) + 1
					}
					l := []api.Change{gone(key(2*i, 24)), set(key(other, 24), strings.Repeat("w", 160))}
					applies(t, c, l...)
					m, _ = m.with(l)
				}
				if journalled(t, p) != n {
					t.Fatalf("a Checkpoint was done ahead of its time: nothing was shown")
				}
				c = opens(t, p)
				lists(t, c, "", m)
				ok(t, c.Checkpoint())
				lists(t, c, "", m)
				if journalled(t, p) != 0 {
					t.Fatalf("the journal is not empty")
				}
				same(t, opens(t, p), m)
			}
		}
	}
}

// TestPagesBehindCheckpoint: no page is lost, however often it is done.
func TestPagesBehindCheckpoint(t *testing.T) { // P12.5, P12.6
	r := rand.New(rand.NewSource(5))
	k := maker{r: r, letters: "0123456789", maxKey: 3, values: []int{-1}}
	p, c := formatted(t, 64, 700)
	m := plain{}
	for i := range 200 {
		m = tryApply(t, p, c, m, k.changes(m))
		if i%3 > 0 {
			continue
		}
		ok(t, c.Checkpoint())
		g, e := pager.Open(p, 1)
		ok(t, e)
		if room := g.Room(); room < 87-len(m) {
			t.Fatalf("room for %d pages with %d keys", room, len(m))
		}
	}
}
