package catalog

import (
	"math/rand"
	"strings"
	"testing"

	"muniment/api"
	"muniment/btree"
	"muniment/pager"
	"muniment/plant"
	"muniment/wal"
)

// base is a plant whose catalogue has keys in the tree, in the journal, and in both.
func base(t *testing.T) (*plant.Plant, plain) {
	t.Helper()
	p, c := formatted(t, 64, 386)
	m := plain{}
	add := func(l ...api.Change) {
		applies(t, c, l...)
		m, _ = m.with(l)
	}
	for i := range 12 {
		add(set(key(i, 24), strings.Repeat("v", 160-i)))
	}
	ok(t, c.Checkpoint())
	add(set(key(1, 24), "new"), gone(key(2, 24)), set("a", "1"))
	add(set("b", strings.Repeat("w", 100)), gone(key(3, 24)))
	return p, m
}

// anew is Format of disks that may have anything, and what may be done then.
func anew(t *testing.T, p *plant.Plant) {
	t.Helper()
	ok(t, Format(p, 0, 1))
	c := opens(t, p)
	same(t, c, plain{})
	applies(t, c, set("a", "1"), set("b", "2"))
	ok(t, c.Checkpoint())
	applies(t, c, gone("a"))
	p.Boot(nil)
	same(t, opens(t, p), plain{"b": "2"})
}

// TestAnyByteRots: the sums of the layers below know of any single byte, so that Open is
// refused, or all is as it was.
func TestAnyByteRots(t *testing.T) { // P12.8, R4
	t.Parallel()
	p, m := base(t)
	refused, right := 0, 0
	for dev, sectors := range p.Shape().Disks {
		for place := range sectors {
			for at := place % 5; at < 64; at += 5 {
				by := []int{1, 0x80, 0xff}[(place+at)%3]
				p.Rot(dev, place, at, by)
				switch c, e := Open(p, 0, 1); {
				case e == api.ErrCorrupt && c == nil:
					refused++
				case e != api.OK || !m.like(c):
					t.Fatalf("byte %d of sector %d of %d: Open: %d", at, place, dev, e)
				default:
					right++
				}
				p.Rot(dev, place, at, by)
			}
		}
	}
	if refused < 500 || right < 500 {
		t.Errorf("%d refused, %d right: nothing was shown", refused, right)
	}
	same(t, opens(t, p), m)
}

// asked does calls of all kinds to a catalogue of disks that rotted: each ends, with an
// answer that may be; nothing comes with an error.
func asked(t *testing.T, r *rand.Rand, c *Catalog) {
	t.Helper()
	k := maker{r: r, letters: "01ab", maxKey: 24, values: []int{0, 160, -1}}
	for range 25 {
		name := key(r.Intn(14), 24)
		switch d := r.Intn(10); {
		case d < 3:
			b, is, e := c.Get([]byte(name))
			if e != api.OK && (e != api.ErrCorrupt || len(b) > 0 || is) || !is && len(b) > 0 {
				t.Fatalf("Get: %x, %v, %d", b, is, e)
			}
		case d < 5:
			l, e := c.List([]byte(name[:r.Intn(5)]))
			if e != api.OK && (e != api.ErrCorrupt || len(l) > 0) {
				t.Fatalf("List: %d pairs, %d", len(l), e)
			}
		case d < 8:
			l := append(k.changes(plain{}), gone(name))
			for sizeOf(l) > 1024 || len(l) > 16 {
				l = l[1:]
			}
			if e := c.Apply(l); e != api.OK && e != api.ErrCorrupt && e != api.ErrFull {
				t.Fatalf("Apply: %d", e)
			}
		default:
			if e := c.Checkpoint(); e != api.OK && e != api.ErrCorrupt {
				t.Fatalf("Checkpoint: %d", e)
			}
		}
	}
}

// opensPerhaps opens disks that may have anything, and asks what is there.
func opensPerhaps(t *testing.T, r *rand.Rand, p *plant.Plant) bool {
	t.Helper()
	c, e := Open(p, 0, 1)
	if (e == api.OK) != (c != nil) || e != api.OK && e != api.ErrCorrupt {
		t.Fatalf("Open: %d", e)
	}
	if e == api.OK {
		asked(t, r, c)
	}
	return e == api.OK
}

// TestManyBytesRot: ahead of Open, and while it is open.
func TestManyBytesRot(t *testing.T) { // P12.8, R1, R4
	t.Parallel()
	p, _ := base(t)
	opened := 0
	for seed := range int64(600) {
		r := rand.New(rand.NewSource(seed))
		q := p.Clone()
		rot := func() {
			for range 1 + r.Intn(4) {
				q.Rot(r.Intn(2), r.Intn([]int{12, 60, 386}[seed%3]), r.Intn(64), r.Intn(256))
			}
		}
		c := opens(t, q)
		rot()
		asked(t, r, c)
		for range 3 {
			rot()
			if r.Intn(2) == 0 {
				q.Boot([]int{r.Intn(2), 1})
			}
			if opensPerhaps(t, r, q) {
				opened++
			}
		}
		anew(t, q)
	}
	if opened < 50 {
		t.Errorf("%d opened: nothing was shown", opened)
	}
}

// TestSectorsThatChangePlaces: all sums hold, but nothing is where it was.
func TestSectorsThatChangePlaces(t *testing.T) { // P12.8, R1, R4
	t.Parallel()
	p, _ := base(t)
	old := p.Clone()
	c := opens(t, p)
	ok(t, c.Checkpoint())
	for i := range 5 {
		applies(t, c, gone(key(2*i, 24)), set("new", strings.Repeat("n", 20*i)))
	}
	opened := 0
	for seed := range int64(500) {
		r := rand.New(rand.NewSource(seed))
		q := p.Clone()
		for range 1 + r.Intn(4) {
			from, to, count := r.Intn(2), r.Intn(2), 1
			at, place := r.Intn(20), r.Intn(20)
			if seed%2 == 0 { // whole pages, and a journal's row
				from, to, count = 1, 1, 8
				at, place = 2+8*r.Intn(20), 2+8*r.Intn(20)
			}
			if seed%5 == 0 { // what was there ahead
				from = to
				place = at
			}
			for i := range count {
				b, e := []*plant.Plant{p, old}[r.Intn(2)].Read(from, at+i)
				ok(t, e)
				ok(t, q.Write(to, place+i, b))
			}
		}
		if opensPerhaps(t, r, q) {
			opened++
		}
		anew(t, q)
	}
	if opened < 20 {
		t.Errorf("%d opened: nothing was shown", opened)
	}
}

// TestDisksOfAnything: there is no catalogue, nothing panics, and Format makes one.
func TestDisksOfAnything(t *testing.T) { // P12.2, P12.8, R1
	for name, p := range fillings(t) {
		r := rand.New(rand.NewSource(6))
		if name != "junk that waits" {
			p.Boot(nil)
		}
		opensPerhaps(t, r, p.Clone())
		anew(t, p)
	}
}

// forged is a catalogue whose pager has other pages, which are nobody's, so that it has
// room for so many.
func forged(t *testing.T, room int) *plant.Plant {
	t.Helper()
	p, _ := base(t)
	g, e := pager.Open(p, 1)
	ok(t, e)
	for g.Room() > room {
		_, e := g.Put([]byte("nobody's"))
		ok(t, e)
	}
	ok(t, g.Commit(g.Root()))
	return p
}

// TestATreeWithoutRoom: the disk says that pages are in use which are nobody's. A
// Checkpoint is refused, or done; what there is, is not lost.
func TestATreeWithoutRoom(t *testing.T) { // P12.8
	_, m := base(t)
	refused := 0
	for room := range 20 {
		p := forged(t, room)
		c := opens(t, p)
		same(t, c, m)
		e := c.Checkpoint()
		if e != api.OK && e != api.ErrCorrupt {
			t.Fatalf("Checkpoint with room for %d: %d", room, e)
		}
		if e == api.ErrCorrupt {
			refused++
		}
		same(t, c, m)
		same(t, opens(t, p), m)
		c = opens(t, p)
		for range 60 {
			if e := c.Apply([]api.Change{set("a", strings.Repeat("v", 160))}); e != api.OK && e != api.ErrCorrupt {
				t.Fatalf("Apply: %d", e)
			}
		}
		anew(t, p)
	}
	if refused == 0 {
		t.Errorf("no Checkpoint was refused: nothing was shown")
	}
}

// TestMoreKeysThanMayBe: no Apply led to them. What there is may be taken away.
func TestMoreKeysThanMayBe(t *testing.T) { // P12.4, P12.8
	p, c := formatted(t, 400, 386)
	n := filled(t, c, plain{}, func(i int) api.Change { return set(key(i, 4), "") })
	ok(t, c.Checkpoint())
	w, _, e := wal.Open(p, 0)
	ok(t, e)
	m := plain{}
	for i := range n + 10 {
		m[key(i, 4)] = ""
		if i >= n {
			ok(t, w.Append([][]byte{recordOf(set(key(i, 4), ""))}))
		}
	}
	c = opens(t, p)
	same(t, c, m)
	appliesNot(t, p, c, api.ErrFull, set("new", ""))
	for i := range n + 10 {
		applies(t, c, set(key(i, 4), "1"))
		applies(t, c, gone(key(i, 4)))
	}
	ok(t, c.Checkpoint())
	same(t, opens(t, p), plain{})
}

// TestTreesThatAreNone: the pager is there, and its root is no tree's.
func TestTreesThatAreNone(t *testing.T) { // P12.2, P12.8
	for _, b := range []string{"", "BT", "some words", strings.Repeat("\xff", 500)} {
		p, _ := base(t)
		g, e := pager.Open(p, 1)
		ok(t, e)
		page, e := g.Put([]byte(b))
		ok(t, e)
		ok(t, g.Commit(page))
		opensNot(t, p, 0, 1, api.ErrCorrupt)
		anew(t, p)
	}
}

// TestRotBehindOpen: a page that is needed can't be read any more: the call is refused,
// and what the journal has is still told.
func TestRotBehindOpen(t *testing.T) { // P12.8
	p, m := base(t)
	c := opens(t, p)
	g, e := pager.Open(p, 1)
	ok(t, e)
	if l, e := btree.Open(g).List(nil, nil); len(l) != 12 || e != api.OK {
		t.Fatalf("%d keys in the tree: %d", len(l), e)
	}
	p.Rot(1, 2+8*g.Root()+1, 5, 1)
	if l, e := c.List(nil); len(l) > 0 || e != api.ErrCorrupt {
		t.Errorf("List: %d, %d", len(l), e)
	}
	if b, is, e := c.Get([]byte(key(5, 24))); len(b) > 0 || is || e != api.ErrCorrupt {
		t.Errorf("Get: %x, %v, %d", b, is, e)
	}
	steps := p.Steps()
	if e := c.Checkpoint(); e != api.ErrCorrupt || p.Steps() != steps {
		t.Errorf("Checkpoint: %d", e)
	}
	appliesNot(t, p, c, api.ErrCorrupt, set("z", "1"))
	gets(t, c, "a", "1")
	applies(t, c, set("a", "2"))
	m["a"] = "2"
	opensNot(t, p, 0, 1, api.ErrCorrupt)
	p.Rot(1, 2+8*g.Root()+1, 5, 1)
	same(t, opens(t, p), m)
}

// TestCheckpointOfWhatRotted: each kind of change that can't be brought to the tree makes
// it refuse: the journal keeps what it has.
func TestCheckpointOfWhatRotted(t *testing.T) { // P12.6, P12.8
	for name, l := range map[string][]api.Change{
		"set":      {set("a", "1"), set("b", "2")},
		"set anew": {set(key(0, 24), "1")},
		"gone":     {gone(key(0, 24)), gone(key(5, 24))},
		"both":     {gone(key(0, 24)), set("a", "1")},
	} {
		p, m := base(t)
		c := opens(t, p)
		ok(t, c.Checkpoint())
		applies(t, c, l...)
		m, _ = m.with(l)
		g, e := pager.Open(p, 1)
		ok(t, e)
		p.Rot(1, 2+8*g.Root(), 20, 1)
		for range 2 {
			if e := c.Checkpoint(); e != api.ErrCorrupt {
				t.Fatalf("%s: Checkpoint: %d", name, e)
			}
		}
		for i := range 100 { // up to the journal's end
			x := set(string(l[0].Key), strings.Repeat("w", i))
			e := c.Apply([]api.Change{x})
			if e == api.OK {
				m, _ = m.with([]api.Change{x})
			} else if e != api.ErrCorrupt {
				t.Fatalf("%s: Apply: %d", name, e)
			}
		}
		p.Rot(1, 2+8*g.Root(), 20, 1)
		same(t, c, m)
		same(t, opens(t, p), m)
		c = opens(t, p)
		ok(t, c.Checkpoint())
		same(t, c, m)
	}
}
