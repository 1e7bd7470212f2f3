package btree

import (
	"bytes"
	"maps"
	"math/rand"
	"slices"
	"strings"
	"testing"

	"muniment/api"
	"muniment/pager"
	"muniment/plant"
)

// pageAt is the page that a sector is of; below 0: it is none's.
func pageAt(place int) int {
	if place < 2 {
		return -1
	}
	return (place - 2) / api.PageSectors
}

// pagesTo are those that are needed to get at a key.
func pagesTo(t *testing.T, x *Tree, key string) []int {
	t.Helper()
	way, _, e := x.wayTo([]byte(key))
	ok(t, e)
	var l []int
	for _, s := range way {
		l = append(l, s.n.page)
	}
	return l
}

// getsIf holds Get of a key whose pages can be read, or not.
func getsIf(t *testing.T, x *Tree, m plain, key string, readable bool) {
	t.Helper()
	if !readable {
		if b, is, e := x.Get([]byte(key)); len(b) > 0 || is || e != api.ErrCorrupt {
			t.Fatalf("Get(%x) of what rotted: %x, %v, %d", key, b, is, e)
		}
		return
	}
	if v, is := m[key]; is {
		gets(t, x, key, v)
	} else {
		getsNot(t, x, key)
	}
}

// TestAnyByteRots: the pager's sums know of any single byte, so that no other answer
// is given; and only what needs the page is refused.
func TestAnyByteRots(t *testing.T) { // P10.9, R4
	t.Parallel()
	p, m := base(t)
	_, x := opens(t, p)
	ways := map[string][]int{}
	for _, key := range []string{counted(0, 24), counted(7, 24), counted(8, 24), counted(16, 24), "\xff"} {
		ways[key] = pagesTo(t, x, key)
	}
	nodes := nodesOf(t, x)
	for place := range 2 + 8*40 {
		for at := range 64 {
			by := []int{1, 0x80, 0xff}[(place+at)%3]
			p.Rot(0, place, at, by)
			g, e := pager.Open(p, 0)
			if (e == api.ErrCorrupt) != (place < 2) {
				t.Fatalf("pager.Open with sector %d rotted: %d", place, e)
			}
			if e == api.OK {
				y := Open(g)
				for key, way := range ways {
					getsIf(t, y, m, key, !slices.Contains(way, pageAt(place)))
				}
				if nodes[pageAt(place)] == nil {
					lists(t, y, "", "", m)
				} else if l, e := y.List(nil, nil); len(l) > 0 || e != api.ErrCorrupt {
					t.Fatalf("List of what rotted: %x, %d", l, e)
				}
			}
			p.Rot(0, place, at, by)
		}
	}
	_, x = opens(t, p)
	same(t, x, m)
}

// TestListOfARangeThatRotted: it is refused only where the page may have what is asked
// for.
func TestListOfARangeThatRotted(t *testing.T) { // P10.9
	p, m := base(t)
	_, x := opens(t, p)
	bounds := append(slices.Sorted(maps.Keys(m)), "", "\x00", counted(3, 24), counted(9, 24), "\xff")
	for page, n := range nodesOf(t, x) {
		low, high := string(n.low), string(n.high)
		p.Rot(0, 2+8*page, 9, 1)
		_, y := opens(t, p)
		for _, from := range bounds {
			for _, to := range bounds {
				isEmpty := to != "" && from >= to
				needed := !isEmpty && (high == "" || from < high) && (to == "" || low < to)
				l, e := y.List([]byte(from), []byte(to))
				if needed && (len(l) > 0 || e != api.ErrCorrupt) {
					t.Fatalf("List(%x, %x) of what rotted: %d pairs, %d", from, to, len(l), e)
				}
				if !needed {
					lists(t, y, from, to, m)
				}
			}
		}
		p.Rot(0, 2+8*page, 9, 1)
	}
}

// TestPutAndDeleteOfWhatRotted: they are refused, and nothing has changed, or done as
// ever.
func TestPutAndDeleteOfWhatRotted(t *testing.T) { // P10.9
	p, committed := base(t)
	_, x := opens(t, p)
	refused, done := 0, 0
	for page := range nodesOf(t, x) {
		for _, key := range append(slices.Sorted(maps.Keys(committed)), counted(7, 24), "\xff") {
			for c := range 2 {
				q, m := p.Clone(), maps.Clone(committed)
				g, y := opens(t, q)
				needed := slices.Contains(pagesTo(t, y, key), page)
				q.Rot(0, 2+8*page+3, 9, 1)
				steps, room := q.Steps(), g.Room()
				var e api.Errno
				if c == 0 {
					if e = y.Put([]byte(key), []byte("new")); e == api.OK {
						m[key] = "new"
					}
				} else {
					is, f := y.Delete([]byte(key))
					if _, was := m[key]; is != (was && f == api.OK) {
						t.Fatalf("Delete(%x): %v, %d", key, is, f)
					}
					if e = f; e == api.OK {
						delete(m, key)
					}
				}
				switch {
				case e == api.ErrCorrupt:
					refused++
					if q.Steps() != steps || g.Room() != room {
						t.Fatalf("what was refused did something")
					}
				case e != api.OK || needed:
					t.Fatalf("answers %d", e)
				default:
					done++
				}
				q.Rot(0, 2+8*page+3, 9, 1)
				same(t, y, m)
				commits(t, y, m, 40)
				q.Boot(nil)
				_, y = opens(t, q)
				same(t, y, m)
			}
		}
	}
	if refused == 0 || done == 0 {
		t.Errorf("%d refused, %d done: nothing was shown", refused, done)
	}
}

// TestCommitOfATreeThatRotted: what can be read is committed as ever.
func TestCommitOfATreeThatRotted(t *testing.T) { // P10.6, P10.9
	p, m := base(t)
	_, x := opens(t, p)
	last := pagesTo(t, x, counted(16, 24))
	p.Rot(0, 2+8*last[len(last)-1], 0, 1)
	puts(t, x, counted(0, 24), "new")
	m[counted(0, 24)] = "new"
	ok(t, x.Commit())
	p.Boot(nil)
	_, x = opens(t, p)
	getsIf(t, x, m, counted(0, 24), true)
	getsIf(t, x, m, counted(16, 24), false)
	p.Rot(0, 2+8*last[len(last)-1], 0, 1)
	same(t, x, m)
}

// forged is a disk with these pages, numbered from 0 on, the last one being the root.
func forged(t *testing.T, pages ...[]byte) *plant.Plant {
	t.Helper()
	p, g, _ := formatted(t, len(pages)+16)
	for _, b := range pages {
		_, e := g.Put(b)
		ok(t, e)
	}
	ok(t, g.Commit(len(pages)-1))
	return p
}

// leafOf is the page of a leaf with these keys, innerOf that of a node with keys
// between kids.
func leafOf(keys ...string) []byte { return innerOf(0, keys) }

func innerOf(level int, keys []string, kids ...int) []byte {
	n := node{level: level}
	for _, key := range keys {
		n.pairs = append(n.pairs, api.Pair{Key: []byte(key), Value: []byte("v")})
	}
	for _, page := range kids {
		n.kids = append(n.kids, kid{page: page})
	}
	return n.bytes()
}

// refuses asks for a key where a page that is needed is none of a tree's.
func refuses(t *testing.T, p *plant.Plant, key string) {
	t.Helper()
	g, x := opens(t, p)
	steps, room, used := p.Steps(), g.Room(), inUse(g)
	if b, is, e := x.Get([]byte(key)); len(b) > 0 || is || e != api.ErrCorrupt {
		t.Errorf("Get: %x, %v, %d", b, is, e)
	}
	if e := x.Put([]byte(key), nil); e != api.ErrCorrupt {
		t.Errorf("Put: %d", e)
	}
	if is, e := x.Delete([]byte(key)); is || e != api.ErrCorrupt {
		t.Errorf("Delete: %v, %d", is, e)
	}
	if l, e := x.List(nil, nil); len(l) > 0 || e != api.ErrCorrupt {
		t.Errorf("List: %x, %d", l, e)
	}
	if p.Steps() != steps || g.Room() != room || !slices.Equal(inUse(g), used) {
		t.Errorf("what was refused did something")
	}
	lists(t, x, "k", "k", plain{}) // needs no page
	getsNot(t, x, "")
	putsNot(t, x, "", "", api.ErrKey)
	deletesNot(t, x, "")
	ok(t, x.Commit())
}

// noNodes are pages that are none of a tree's.
func noNodes() map[string][]byte {
	right := leafOf("a", "b")
	long := func(key, value int) []byte {
		n := node{pairs: []api.Pair{{Key: make([]byte, key), Value: make([]byte, value)}}}
		return n.bytes()
	}
	return map[string][]byte{
		"nothing":            nil,
		"a byte":             {'B'},
		"the mark":           []byte(mark),
		"no pair":            leafOf(),
		"no pair, a kid":     innerOf(1, nil, 0),
		"noughts":            make([]byte, 500),
		"ones":               bytes.Repeat([]byte{0xff}, 500),
		"text":               []byte("some words, which are no node of a tree"),
		"no mark":            right[2:],
		"another mark":       append([]byte("TB"), right[2:]...),
		"a byte less":        right[:len(right)-1],
		"a byte more":        append(slices.Clone(right), 0),
		"a byte more, 1":     append(slices.Clone(right), 1),
		"half a pair":        right[:len(right)-3],
		"a pair's head":      append(slices.Clone(right), 1, 0),
		"a leaf as if inner": append([]byte(mark+"\x01"), right[3:]...),
		"an inner as leaf":   append([]byte(mark+"\x00"), innerOf(1, []string{"m"}, 0, 0)[3:]...),
		"an inner cut off":   innerOf(1, []string{"m"}, 0, 0)[:9],
		"half a kid":         innerOf(1, []string{"m"}, 0, 0)[:10],
		"a kid too many":     append(innerOf(1, []string{"m"}, 0, 0), 0, 0),
		"twice a key":        leafOf("a", "a"),
		"keys that fall":     leafOf("b", "a"),
		"a beginning behind": leafOf("ab", "a"),
		"the last one falls": leafOf("a", "b", "c", "bb"),
		"a key of no bytes":  long(0, 1),
		"a key of 25 bytes":  long(25, 1),
		"a key of 255":       long(255, 1),
		"a value of 161":     long(1, 161),
		"a value of 255":     long(1, 255),
		"both too long":      long(200, 200),
		"too high":           innerOf(8, []string{"m"}, 0, 0),
		"much too high":      innerOf(255, []string{"m"}, 0, 0),
	}
}

// TestPagesThatAreNoNodes: as root, as a kid, and as a kid's kid.
func TestPagesThatAreNoNodes(t *testing.T) { // P10.9, R1
	_, x := opens(t, forged(t, leafOf("a", "b")))
	same(t, x, plain{"a": "v", "b": "v"})
	for name, b := range noNodes() {
		t.Run(name, func(t *testing.T) {
			refuses(t, forged(t, b), "a")
			refuses(t, forged(t, b), "m")
			refuses(t, forged(t, b, leafOf("x", "y"), innerOf(1, []string{"n"}, 0, 1)), "a")
			refuses(t, forged(t, leafOf("x", "y"), b, innerOf(1, []string{"A"}, 0, 1)), "a")
			refuses(t, forged(t, b, leafOf("p"), leafOf("s"), leafOf("z"),
				innerOf(1, []string{"n"}, 0, 1), innerOf(1, []string{"u"}, 2, 3), innerOf(2, []string{"r"}, 4, 5)), "a")
		})
	}
}

// TestNodesAtTheWrongPlace: each is a node, but not of that tree. Of a right tree made
// the same way all is told.
func TestNodesAtTheWrongPlace(t *testing.T) { // P10.9, R1
	b, n, x := leafOf("b"), leafOf("n"), leafOf("x")
	low, high := innerOf(1, []string{"m"}, 0, 1), innerOf(1, []string{"u"}, 2, 3)
	_, right := opens(t, forged(t, b, n, leafOf("t"), x, low, high, innerOf(2, []string{"p"}, 4, 5)))
	same(t, right, plain{"b": "v", "m": "v", "n": "v", "p": "v", "t": "v", "u": "v", "x": "v"})
	for name, p := range map[string]*plant.Plant{
		"itself":                     forged(t, b, innerOf(1, []string{"m"}, 1, 0)),
		"itself, twice":              forged(t, b, innerOf(1, []string{"m"}, 1, 1)),
		"one above it":               forged(t, b, n, innerOf(1, []string{"m"}, 3, 1), innerOf(2, []string{"p"}, 2, 2)),
		"two of one another":         forged(t, innerOf(1, []string{"m"}, 1, 1), innerOf(1, []string{"n"}, 0, 0)),
		"a leaf too early":           forged(t, b, n, low, innerOf(2, []string{"p"}, 0, 2)),
		"a leaf too late":            forged(t, low, n, innerOf(1, []string{"p"}, 0, 1)),
		"a level left out":           forged(t, b, n, low, high, innerOf(3, []string{"p"}, 2, 3)),
		"a page that is not in use":  forged(t, b, innerOf(1, []string{"m"}, 2, 0)),
		"a page that is none":        forged(t, b, innerOf(1, []string{"m"}, 384, 0)),
		"the greatest page":          forged(t, b, innerOf(1, []string{"m"}, 65535, 0)),
		"keys of another place":      forged(t, n, x, innerOf(1, []string{"m"}, 0, 1)),
		"the key above":              forged(t, leafOf("b", "m"), x, innerOf(1, []string{"m"}, 0, 1)),
		"one key too many":           forged(t, leafOf("b", "c", "z"), x, innerOf(1, []string{"m"}, 0, 1)),
		"a key of two levels above":  forged(t, leafOf("b", "q"), innerOf(1, []string{"a"}, 2, 0), leafOf("A"), x, innerOf(2, []string{"p"}, 1, 3)),
		"the same one at two places": forged(t, leafOf("x"), innerOf(1, []string{"m"}, 0, 0)),
	} {
		t.Run(name, func(t *testing.T) { refuses(t, p, "b") })
	}
}

// TestKeysAheadOfTheirPlace: they are found where they are needed, and nowhere else.
func TestKeysAheadOfTheirPlace(t *testing.T) { // P10.9
	for _, key := range []string{"x", "m"} {
		_, x := opens(t, forged(t, leafOf("b"), leafOf(key, "z"), innerOf(1, []string{"x"}, 0, 1)))
		gets(t, x, "b", "v")
		gets(t, x, "x", "v")
		lists(t, x, "", "x", plain{"b": "v"})
		if _, is, e := x.Get([]byte("z")); is || e != api.ErrCorrupt {
			t.Errorf("Get: %v, %d", is, e)
		}
		if l, e := x.List([]byte("y"), nil); len(l) > 0 || e != api.ErrCorrupt {
			t.Errorf("List: %x, %d", l, e)
		}
	}
}

// TestKidsBesideOneThatIsJoined: they are needed then, and are a tree's, or not.
func TestKidsBesideOneThatIsJoined(t *testing.T) { // P10.4, P10.9
	for name, b := range noNodes() {
		for _, p := range []*plant.Plant{
			forged(t, leafOf("a"), b, innerOf(1, []string{"m"}, 0, 1)),
			forged(t, b, leafOf("z"), innerOf(1, []string{"m"}, 0, 1)),
		} {
			g, x := opens(t, p)
			steps, room, used := p.Steps(), g.Room(), inUse(g)
			for _, key := range []string{"a", "z"} {
				if is, e := x.Delete([]byte(key)); is || e != api.ErrCorrupt {
					t.Errorf("%s: Delete(%s): %v, %d", name, key, is, e)
				}
			}
			gets(t, x, "m", "v")
			if p.Steps() != steps || g.Room() != room || !slices.Equal(inUse(g), used) {
				t.Errorf("%s: what was refused did something", name)
			}
		}
	}
}

// TestATreeThatWouldBeTooHigh: its nodes on the way are as they may be, but there can't
// be so many below them.
func TestATreeThatWouldBeTooHigh(t *testing.T) { // P10.3, P10.9
	around := func(c int) []byte { return bytes.Repeat([]byte{byte(100 + c)}, 24) }
	var pages [][]byte
	for level := range 8 {
		n := node{level: level, pairs: []api.Pair{
			{Key: around(-1 - level), Value: make([]byte, 160)},
			{Key: around(1 + level), Value: make([]byte, 160)},
		}}
		if level > 0 {
			n.kids = []kid{{page: 99}, {page: level - 1}, {page: 99}}
		}
		pages = append(pages, n.bytes())
	}
	p := forged(t, pages...)
	g, x := opens(t, p)
	if g.Room() != 16 {
		t.Fatalf("room for %d", g.Room())
	}
	steps, key := p.Steps(), string(around(0))
	putsNot(t, x, key, strings.Repeat("v", 160), api.ErrCorrupt)
	if g.Room() != 16 || p.Steps() != steps {
		t.Errorf("what was refused did something")
	}
	getsNot(t, x, key)
	puts(t, x, string(around(-1)), "short")
	puts(t, x, key, "short")
	gets(t, x, key, "short")
}

// goesOn does all kinds of calls to a tree that may be anything: each ends, with an
// answer that may be, and where one is refused nothing has changed.
func goesOn(t *testing.T, r *rand.Rand, p *plant.Plant, keys []string) {
	t.Helper()
	g, x := opens(t, p)
	for range 40 {
		key := []byte(keys[r.Intn(len(keys))])
		steps, room := p.Steps(), g.Room()
		var e api.Errno
		var refused bool
		switch c := r.Intn(20); {
		case c < 3:
			var b []byte
			var is bool
			b, is, e = x.Get(key)
			refused = len(b) == 0 && !is
		case c < 5:
			var l []api.Pair
			l, e = x.List(key, []byte(keys[r.Intn(len(keys))]))
			refused = len(l) == 0
		case c < 12:
			e, refused = x.Put(key, make([]byte, r.Intn(161))), true
		case c < 19:
			var is bool
			is, e = x.Delete(key)
			refused = !is
		default:
			ok(t, x.Commit())
		}
		if e == api.OK {
			continue
		}
		if !refused || e != api.ErrCorrupt && (e != api.ErrFull || room >= 16) || p.Steps() != steps || g.Room() != room {
			t.Fatalf("answers %d with room for %d", e, room)
		}
	}
	x.List(nil, nil)
}

// pagesOf are the bytes of all pages up to the last one in use.
func pagesOf(t *testing.T, g *pager.Pager) [][]byte {
	t.Helper()
	used := inUse(g)
	all := make([][]byte, used[len(used)-1]+1)
	for _, page := range used {
		b, e := g.Read(page)
		ok(t, e)
		all[page] = b
	}
	return all
}

// TestNodesWithTurnedBytes: rot may turn bytes so that all sums hold. Whatever the
// nodes are then, each call ends.
func TestNodesWithTurnedBytes(t *testing.T) { // P10.9, R1, R4
	t.Parallel()
	r := rand.New(rand.NewSource(1))
	for range 60 {
		_, g, x := formatted(t, 100)
		var keys []string
		size := []int{0, 30, 160}[r.Intn(3)]
		for i := range 12 + r.Intn(50) {
			keys = append(keys, string([]byte{byte(3 * i), byte(r.Intn(256))}))
			puts(t, x, keys[i], strings.Repeat("v", size))
			keys[i] = keys[i][:1+r.Intn(2)]
		}
		ok(t, x.Commit())
		pages := pagesOf(t, g)
		root := pages[g.Root()]
		for range 60 {
			turned := append(slices.Clone(pages), root)
			for range 1 + r.Intn(4) {
				page := r.Intn(len(turned))
				if b := bytes.Clone(turned[page]); len(b) > 0 {
					b[[]int{2, 3, 4, 5, r.Intn(len(b)), r.Intn(len(b))}[r.Intn(6)]%len(b)] = byte(r.Intn(256) >> (r.Intn(2) * 5))
					turned[page] = b
				}
				if r.Intn(8) == 0 {
					turned[page] = turned[r.Intn(len(turned))]
				}
			}
			goesOn(t, r, forged(t, turned...), keys)
		}
	}
}

// TestPagesOfAnyBytes: behind the mark, too.
func TestPagesOfAnyBytes(t *testing.T) { // P10.9, R1
	r := rand.New(rand.NewSource(2))
	for range 2000 {
		var pages [][]byte
		for range 1 + r.Intn(4) {
			b := someBytes(r, r.Intn(501))
			if r.Intn(4) > 0 {
				b = append([]byte(mark), b[:min(len(b), 498)]...)
			}
			pages = append(pages, b)
		}
		goesOn(t, r, forged(t, pages...), []string{"a", "b", "\xff", "\x00"})
	}
}

// TestManyBytesRot: of a disk; what opens goes on.
func TestManyBytesRot(t *testing.T) { // P10.9, R1, R4
	r := rand.New(rand.NewSource(3))
	p, m := base(t)
	keys := slices.Sorted(maps.Keys(m))
	for range 500 {
		q := p.Clone()
		for range 1 + r.Intn(20) {
			q.Rot(0, 2+r.Intn(8*40), r.Intn(64), r.Intn(256))
		}
		goesOn(t, r, q, keys)
	}
}

// TestNodesThereAndBack: what is laid down is read as it was.
func TestNodesThereAndBack(t *testing.T) { // P10.2
	r := rand.New(rand.NewSource(4))
	for range 500 {
		n := node{level: r.Intn(8)}
		if n.level > 0 {
			n.kids = append(n.kids, kid{page: r.Intn(384)})
		}
		for range 1 + r.Intn(8) {
			n.pairs = append(n.pairs, api.Pair{Key: someBytes(r, 1+r.Intn(24)), Value: someBytes(r, r.Intn(161))})
			if n.level > 0 {
				n.kids = append(n.kids, kid{page: r.Intn(384)})
			}
		}
		b := n.bytes()
		if n.isLong() != (len(b) > 500) {
			t.Fatalf("%d bytes; long: %v", len(b), n.isLong())
		}
		got, is := parse(b)
		if !is || got.level != n.level || !slices.Equal(got.kids, n.kids) || !slices.Equal(told(got.pairs), told(n.pairs)) {
			t.Fatalf("%x is read as another one", b)
		}
		if !bytes.Equal(got.bytes(), b) {
			t.Fatalf("%x is laid down as another one", b)
		}
	}
}

// TestWhatAPageHolds: a node of just 500 bytes is not split, one of a byte more is.
func TestWhatAPageHolds(t *testing.T) { // P10.3
	for size := 498; size <= 502; size++ {
		_, g, x := formatted(t, 20)
		puts(t, x, "key 1", strings.Repeat("v", 160))
		puts(t, x, "key 2", strings.Repeat("v", 160))
		puts(t, x, "key 3", strings.Repeat("v", size-headSize-3*(pairSize+5)-2*160))
		if took := 20 - g.Room(); (took == 1) != (size <= 500) {
			t.Errorf("%d bytes take %d pages", size, took)
		}
	}
}
