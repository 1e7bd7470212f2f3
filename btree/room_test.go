package btree

import (
	"maps"
	"slices"
	"strings"
	"testing"

	"muniment/api"
	"muniment/plant"
)

// counted are keys that rise, of so many bytes, with room for others between them.
func counted(i, size int) string {
	return string([]byte{byte(i >> 8), byte(i), 100}) + strings.Repeat("k", size-3)
}

// shape says how a tree is made by hand: so many pairs in each node of a level, and
// which pairs they are.
type shape struct {
	perNode []int // by level
	pair    func(level, i int) (string, string)
}

// grown lays such a tree down, commits it, and leaves the disk room for so many pages:
// others, which nobody reads, take what is beyond that.
func (s shape) grown(t *testing.T, room int) (*plant.Plant, plain) {
	t.Helper()
	p, g, x := formatted(t, 384)
	m := plain{}
	var build func(level int) *node
	build = func(level int) *node {
		n := &node{level: level}
		for i := range s.perNode[level] + 1 {
			if level > 0 {
				n.kids = append(n.kids, kid{fresh: build(level - 1)})
			}
			if i < s.perNode[level] {
				k, v := s.pair(level, len(m))
				m[k] = v
				n.pairs = append(n.pairs, api.Pair{Key: []byte(k), Value: []byte(v)})
			}
		}
		return n
	}
	root, e := x.layRoot(kid{fresh: build(len(s.perNode) - 1)})
	ok(t, e)
	ok(t, g.Commit(root))
	narrow(t, p, room)
	_, x = opens(t, p)
	same(t, x, m)
	return p, m
}

// narrow leaves a disk room for so many pages.
func narrow(t *testing.T, p *plant.Plant, room int) {
	t.Helper()
	g, _ := opens(t, p)
	for g.Room() > room {
		_, e := g.Put([]byte("nobody's"))
		ok(t, e)
	}
	ok(t, g.Commit(g.Root()))
	if g, _ := opens(t, p); g.Room() != room {
		t.Fatalf("room for %d; want %d", g.Room(), room)
	}
}

// long is a pair of as many bytes as may be, short one of few.
func long(level, i int) (string, string) { return counted(i, 24), strings.Repeat("v", 160) }

func short(level, i int) (string, string) { return counted(i, 3), "" }

// longBelow has long pairs in leaves alone, so that one that moves up may be too much.
func longBelow(level, i int) (string, string) {
	if level == 0 {
		return long(level, i)
	}
	return short(level, i)
}

// shapes are trees where many nodes must be split, or joined, at once: nodes are as
// full as may be, or have one pair each; and the highest tree that there may be.
func shapes() map[string]shape {
	return map[string]shape{
		"the highest, long":    {[]int{1, 1, 1, 1, 1, 1, 1, 1}, long},
		"the highest, short":   {[]int{1, 1, 1, 1, 1, 1, 1, 1}, short},
		"the highest, mixed":   {[]int{1, 1, 1, 1, 1, 1, 1, 1}, longBelow},
		"full, long":           {[]int{2, 2, 2, 2, 2}, long},
		"full below, long":     {[]int{2, 2, 2, 1, 1, 1, 1}, long},
		"full above, long":     {[]int{1, 1, 1, 2, 2, 2}, long},
		"two levels, full":     {[]int{2, 70}, longBelow},
		"two levels, thin":     {[]int{1, 70}, longBelow},
		"three levels, full":   {[]int{2, 11, 11}, longBelow},
		"one leaf, long":       {[]int{2}, long},
		"one leaf, one pair":   {[]int{1}, long},
		"one leaf, full":       {[]int{99}, short},
		"two levels of shorts": {[]int{90, 2}, short},
	}
}

// TestRoomForSixteen: then neither Put nor Delete answers ErrFull, whichever key it is.
func TestRoomForSixteen(t *testing.T) { // P10.3, P10.4
	t.Parallel()
	for name, s := range shapes() {
		t.Run(name, func(t *testing.T) {
			p, m := s.grown(t, 16)
			keys := slices.Sorted(maps.Keys(m))
			for i := 0; i < len(keys); i += 1 + len(keys)/25 {
				for _, near := range []string{keys[i], keys[i][:2], keys[i][:2] + "\xff"} {
					for _, n := range []int{0, 160} {
						_, x := opens(t, p)
						m := maps.Clone(m)
						puts(t, x, near, strings.Repeat("w", n))
						m[near] = strings.Repeat("w", n)
						lists(t, x, "", "", m)
						gets(t, x, near, m[near])
					}
				}
				_, x := opens(t, p)
				m := maps.Clone(m)
				deletes(t, x, keys[i])
				delete(m, keys[i])
				lists(t, x, "", "", m)
				nodesOf(t, x)
			}
		})
	}
}

// TestRoomForLess: ErrFull is answered, and nothing has changed, or the call is done.
func TestRoomForLess(t *testing.T) { // P10.3, P10.4
	t.Parallel()
	full, done := 0, 0
	for name, s := range shapes() {
		t.Run(name, func(t *testing.T) {
			p, m := s.grown(t, 15)
			keys := slices.Sorted(maps.Keys(m))
			for room := 15; room >= 0; room-- {
				narrow(t, p, room)
				for i := room % 3; i < len(keys); i += 1 + len(keys)/5 {
					for c := range 3 {
						g, x := opens(t, p)
						m, steps := maps.Clone(m), p.Steps()
						switch c {
						case 0:
							tryPut(t, x, m, keys[i][:2], strings.Repeat("w", 160))
						case 1:
							tryPut(t, x, m, keys[i], strings.Repeat("w", 100))
						case 2:
							tryDelete(t, x, m, keys[i])
						}
						lists(t, x, "", "", m)
						if p.Steps() > steps {
							done++
							continue
						}
						full++
						if g.Room() != room {
							t.Fatalf("room for %d; was %d", g.Room(), room)
						}
					}
				}
			}
		})
	}
	if full < 100 || done < 100 {
		t.Errorf("%d calls found no room, %d did: nothing was shown", full, done)
	}
}

// TestHowManyPagesACallTakes: never more than 15, so that 16 are enough.
func TestHowManyPagesACallTakes(t *testing.T) { // P10.3, P10.4
	t.Parallel()
	most := 0
	for name, s := range shapes() {
		p, m := s.grown(t, 16)
		for _, key := range slices.Sorted(maps.Keys(m)) {
			for c := range 3 {
				_, x := opens(t, p)
				steps := p.Steps()
				switch c {
				case 0:
					puts(t, x, key[:2], strings.Repeat("w", 160))
				case 1:
					puts(t, x, key, strings.Repeat("w", 160))
				case 2:
					deletes(t, x, key)
				}
				pages := (p.Steps() - steps) / 8
				if most = max(most, pages); pages > 15 {
					t.Fatalf("%s: %d pages", name, pages)
				}
			}
		}
	}
	if most < 11 {
		t.Errorf("%d pages at the most: nothing was shown", most)
	}
}

// TestAllWithRoomForSixteen: all keys of a tree are put again, or deleted, with a
// Commit ahead of each call that has no room for 16 pages.
func TestAllWithRoomForSixteen(t *testing.T) { // P10.3, P10.4, P10.7
	t.Parallel()
	for name, s := range shapes() {
		t.Run(name, func(t *testing.T) {
			for _, way := range []string{"put", "delete", "both"} {
				p, m := s.grown(t, 40)
				g, x := opens(t, p)
				for i, key := range slices.Sorted(maps.Keys(m)) {
					if g.Room() < 16 {
						ok(t, x.Commit())
					}
					if g.Room() < 16 {
						break // the tree itself has grown so much
					}
					if way == "put" || way == "both" && i%2 == 0 {
						puts(t, x, key, strings.Repeat("w", 160))
						m[key] = strings.Repeat("w", 160)
					} else {
						deletes(t, x, key)
						delete(m, key)
					}
					if i%16 == 0 {
						lists(t, x, "", "", m)
					}
				}
				lists(t, x, "", "", m)
				if nodes := len(nodesOf(t, x)); nodes > len(m) {
					t.Fatalf("%d pages for %d keys", nodes, len(m))
				}
			}
		})
	}
}

// TestADeleteMaySplit: a long pair takes a short one's place in a full node, up to a
// tree that is one level higher.
func TestADeleteMaySplit(t *testing.T) { // P10.4
	s := shape{[]int{2, 70}, longBelow}
	p, m := s.grown(t, 16)
	_, x := opens(t, p)
	root, e := x.top()
	ok(t, e)
	key := string(root.pairs[35].Key)
	deletes(t, x, key)
	delete(m, key)
	same(t, x, m)
	if root, _ := x.top(); root.level != 2 {
		t.Errorf("level %d", root.level)
	}
}

// TestDisksOfFewPages: as much goes in as there is room for, and comes out again.
func TestDisksOfFewPages(t *testing.T) { // P10.3, P10.4, P10.7
	for pages := 1; pages <= 40; pages++ {
		p, g, x := formatted(t, pages)
		if pages >= 16 {
			puts(t, x, "first", "")
			deletes(t, x, "first")
		}
		m := plain{}
		for i := range 200 {
			if i%3 == 0 {
				commits(t, x, m, pages)
			}
			tryPut(t, x, m, counted(i*77%200, 24), strings.Repeat("v", 160))
		}
		if len(m) == 0 {
			t.Fatalf("nothing goes on %d pages", pages)
		}
		commits(t, x, m, pages)
		same(t, x, m)
		for round := 0; len(m) > 0 && round < 500; round++ {
			for _, key := range slices.Sorted(maps.Keys(m)) {
				tryDelete(t, x, m, key)
			}
			commits(t, x, m, pages)
		}
		if pages >= 40 && len(m) > 0 {
			t.Fatalf("%d keys can't be deleted on %d pages", len(m), pages)
		}
		same(t, x, m)
		_, x = opens(t, p)
		same(t, x, m)
		if len(m) == 0 && g.Room() != pages {
			t.Fatalf("room for %d of %d", g.Room(), pages)
		}
	}
}
