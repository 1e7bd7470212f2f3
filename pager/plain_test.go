package pager

import (
	"bytes"
	"maps"
	"math/rand"
	"slices"
	"testing"

	"muniment/api"
	"muniment/plant"
)

// plain is a pager as the chapter's words have it: pages in use and committed, with
// their bytes. No list of bytes is ever changed.
type plain struct {
	pages     int
	used      map[int][]byte
	committed map[int][]byte
	root      int
}

func newPlain(pages int) *plain {
	return &plain{pages: pages, used: map[int][]byte{}, committed: map[int][]byte{}, root: -1}
}

func (m *plain) free() []int {
	var l []int
	for page := range m.pages {
		_, used := m.used[page]
		_, committed := m.committed[page]
		if !used && !committed {
			l = append(l, page)
		}
	}
	return l
}

func (m *plain) put(b []byte) (int, api.Errno) {
	free := m.free()
	switch {
	case len(b) > 500:
		return 0, api.ErrLong
	case len(free) == 0:
		return 0, api.ErrFull
	}
	m.used[free[0]] = bytes.Clone(b)
	return free[0], api.OK
}

func (m *plain) giveUp(page int) api.Errno {
	if _, ok := m.used[page]; !ok {
		return api.ErrPage
	}
	delete(m.used, page)
	return api.OK
}

func (m *plain) commit(root int) api.Errno {
	if _, ok := m.used[root]; !ok && root != -1 {
		return api.ErrPage
	}
	m.committed, m.root = maps.Clone(m.used), root
	return api.OK
}

// opened is what Open finds of it.
func (m *plain) opened() *plain {
	return &plain{pages: m.pages, used: maps.Clone(m.committed), committed: m.committed, root: m.root}
}

// like tells whether g answers as m does, to all that may be asked.
func (m *plain) like(g *Pager) bool {
	if g.Root() != m.root || g.Room() != len(m.free()) {
		return false
	}
	asked := wrongPages(m.pages)
	for page := range m.pages {
		asked = append(asked, page)
	}
	for _, page := range asked {
		want, used := m.used[page]
		b, e := g.Read(page)
		if used != (e == api.OK) || !used && e != api.ErrPage || !bytes.Equal(b, want) {
			return false
		}
	}
	return true
}

func same(t *testing.T, g *Pager, m *plain) {
	t.Helper()
	if !m.like(g) {
		t.Fatalf("root %d, room for %d; want %d, %d and the pages %v", g.Root(), g.Room(), m.root, len(m.free()), slices.Sorted(maps.Keys(m.used)))
	}
}

// somePage is one in use more often than not.
func (m *plain) somePage(r *rand.Rand) int {
	used := slices.Sorted(maps.Keys(m.used))
	if len(used) == 0 || r.Intn(5) == 0 {
		return r.Intn(m.pages+3) - 1
	}
	return used[r.Intn(len(used))]
}

// someLength is of a page's bytes; the edges are frequent.
func someLength(r *rand.Rand) int {
	return []int{0, 1, r.Intn(64), r.Intn(501), 499, 500}[r.Intn(6)]
}

// someCall does one to both, and holds the answers against each other.
func someCall(t *testing.T, r *rand.Rand, p *plant.Plant, dev int, g *Pager, m *plain) (*Pager, *plain) {
	t.Helper()
	page := m.somePage(r)
	switch k := r.Intn(20); {
	case k < 8:
		b := someBytes(r, someLength(r))
		if r.Intn(20) == 0 {
			b = make([]byte, 501)
		}
		x, e := g.Put(b)
		if want, we := m.put(b); x != want || e != we {
			t.Fatalf("Put of %d bytes: %d, %d; want %d, %d", len(b), x, e, want, we)
		}
	case k < 14:
		if e, want := g.Free(page), m.giveUp(page); e != want {
			t.Fatalf("Free(%d): %d; want %d", page, e, want)
		}
	case k < 18:
		if e, want := g.Commit(page), m.commit(page); e != want {
			t.Fatalf("Commit(%d): %d; want %d", page, e, want)
		}
	case k < 19:
		return opens(t, p, dev), m.opened()
	default:
		p.Boot([]int{r.Intn(2), r.Intn(2), r.Intn(2)})
		return opens(t, p, dev), m.opened()
	}
	return g, m
}

func TestAnyCallsAreAsWritten(t *testing.T) { // P9.1 to P9.7, P9.9
	for seed := range int64(150) {
		r := rand.New(rand.NewSource(seed))
		pages := 1 + r.Intn([]int{3, 12, 40}[r.Intn(3)])
		p := made(t, []int{3, 2 + 8*pages + r.Intn(8)}, nil)
		ok(t, Format(p, 1))
		g, m := opens(t, p, 1), newPlain(pages)
		for range 150 {
			same(t, g, m)
			g, m = someCall(t, r, p, 1, g, m)
		}
		same(t, g, m)
		same(t, opens(t, p, 1), m.opened())
	}
}

// TestAnyCallsOnTheGreatestDisk: with as many pages as may be.
func TestAnyCallsOnTheGreatestDisk(t *testing.T) { // P9.3 to P9.7
	r := rand.New(rand.NewSource(1))
	p := made(t, []int{4096}, nil)
	ok(t, Format(p, 0))
	g, m := opens(t, p, 0), newPlain(384)
	for range 380 {
		b := someBytes(r, someLength(r))
		x, _ := m.put(b)
		puts(t, g, b, x)
	}
	for i := range 300 {
		if i%10 == 0 {
			same(t, g, m)
		}
		g, m = someCall(t, r, p, 0, g, m)
	}
	same(t, g, m)
}

// TestManyCommits: one behind the other, opened anew each time, or not.
func TestManyCommits(t *testing.T) { // P9.2, P9.6
	p, g := formatted(t, 2)
	last := -1
	for i := range 1000 {
		page, e := g.Put([]byte{byte(i), byte(i >> 8)})
		ok(t, e)
		if last >= 0 {
			ok(t, g.Free(last))
		}
		ok(t, g.Commit(page))
		last = page
		if i%3 == 0 {
			p.Boot(nil)
			g = opens(t, p, 0)
		}
		has(t, g, page, 1)
		reads(t, opens(t, p, 0), page, []byte{byte(i), byte(i >> 8)})
	}
}
