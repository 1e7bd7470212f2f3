package hotlog

import (
	"bytes"
	"maps"
	"math/rand"
	"slices"
	"testing"

	"muniment/api"
	"muniment/plant"
)

// plain is a disk as the chapter's words have it: of each place in use its bytes.
type plain struct {
	dev, segments int
	used          map[api.Place][]byte
}

func newPlain(dev, sectors int) *plain {
	return &plain{dev: dev, segments: sectors / 16, used: map[api.Place][]byte{}}
}

func (m *plain) taken(sector int) bool {
	for x := range m.used {
		if sector >= x.At && sector < x.At+x.Len {
			return true
		}
	}
	return false
}

// find tries all places, from the least on.
func (m *plain) find(n int) (api.Place, bool) {
	for first := range 16 * m.segments {
		fits := first/16 == (first+n-1)/16
		for i := range n {
			fits = fits && !m.taken(first+i)
		}
		if fits {
			return api.Place{Dev: m.dev, At: first, Len: n}, true
		}
	}
	return api.Place{}, false
}

func (m *plain) append(b []byte) (api.Place, api.Errno) {
	if len(b) > 512 {
		return api.Place{}, api.ErrLong
	}
	x, found := m.find(1 + (len(b)+63)/64)
	if !found {
		return api.Place{}, api.ErrFull
	}
	m.used[x] = bytes.Clone(b)
	return x, api.OK
}

func (m *plain) read(x api.Place) ([]byte, api.Errno) {
	x.Bad = false
	b, is := m.used[x]
	if !is {
		return nil, api.ErrPlace
	}
	return b, api.OK
}

func (m *plain) free(x api.Place) api.Errno {
	_, e := m.read(x)
	x.Bad = false
	delete(m.used, x)
	return e
}

// places are those in use, in any order.
func (m *plain) places(r *rand.Rand) []api.Place {
	l := slices.Collect(maps.Keys(m.used))
	slices.SortFunc(l, func(x, y api.Place) int { return x.At - y.At })
	r.Shuffle(len(l), func(i, j int) { l[i], l[j] = l[j], l[i] })
	return l
}

// pair is a disk and the plain one that it is held against.
type pair struct {
	t *testing.T
	p *plant.Plant
	h *Hot
	m *plain
}

func newPair(t *testing.T, p *plant.Plant, dev int) *pair {
	n, e := p.Len(dev)
	ok(t, e)
	return &pair{t: t, p: p, h: opens(t, p, dev), m: newPlain(dev, n)}
}

func (c *pair) append(b []byte) api.Errno {
	c.t.Helper()
	given := bytes.Clone(b)
	x, e := c.h.Append(b)
	spoil(b)
	if e == api.ErrPower && x == (api.Place{}) {
		return e
	}
	if want, we := c.m.append(given); x != want || e != we {
		c.t.Fatalf("Append of %d bytes: %v, %d; want %v, %d", len(b), x, e, want, we)
	}
	return e
}

func (c *pair) read(x api.Place) {
	c.t.Helper()
	b, e := c.h.Read(x)
	if want, we := c.m.read(x); !bytes.Equal(b, want) || e != we {
		c.t.Fatalf("Read(%v): %d, %x; want %d, %x", x, e, b, we, want)
	}
	spoil(b)
}

func (c *pair) free(x api.Place) {
	c.t.Helper()
	if e, want := c.h.Free(x), c.m.free(x); e != want {
		c.t.Fatalf("Free(%v): %d; want %d", x, e, want)
	}
}

// reopen opens the disk with the places that are in use.
func (c *pair) reopen(r *rand.Rand) {
	c.t.Helper()
	l := c.m.places(r)
	for i := range l {
		l[i].Bad = r.Intn(3) == 0
	}
	c.h = opens(c.t, c.p, c.m.dev, l...)
}

// all reads all places that are in use.
func (c *pair) all() {
	c.t.Helper()
	for x := range c.m.used {
		c.read(x)
	}
}

// somePlace is one in use more often than not, else one next to such, or a wrong one.
func (c *pair) somePlace(r *rand.Rand) api.Place {
	l := c.m.places(r)
	if len(l) == 0 || r.Intn(12) == 0 {
		wrong := wrongPlaces()
		return wrong[r.Intn(len(wrong))]
	}
	x := l[0]
	x.Bad = r.Intn(4) == 0
	if r.Intn(4) == 0 {
		x.At, x.Len = x.At+r.Intn(3)-1, x.Len+r.Intn(3)-1
	}
	return x
}

// someLength is often one at which a sector is just full.
func someLength(r *rand.Rand) int {
	switch r.Intn(8) {
	case 0:
		return 64 * r.Intn(9)
	case 1:
		return 64*r.Intn(9) + 1
	case 2, 3:
		return r.Intn(514)
	case 4:
		return 0
	}
	return r.Intn(130)
}

// TestAgainstPlain: calls in any order, on two disks, with the power on.
func TestAgainstPlain(t *testing.T) { // P14.1 to P14.4, P14.8
	told := map[api.Errno]int{}
	for seed := range int64(150) {
		r := rand.New(rand.NewSource(seed))
		p := made(t, []int{16 + r.Intn(60), 10 + r.Intn(30)}, []int{3})
		pairs := []*pair{newPair(t, p, 0), newPair(t, p, 1)}
		for range 150 {
			c := pairs[r.Intn(2)]
			switch k := r.Intn(20); {
			case k < 9:
				told[c.append(someBytes(r, someLength(r)))]++
			case k < 13:
				c.read(c.somePlace(r))
			case k < 19:
				c.free(c.somePlace(r))
			default:
				c.reopen(r)
			}
		}
		for _, c := range pairs {
			c.all()
			c.reopen(r)
			c.all()
		}
	}
	for _, e := range []api.Errno{api.OK, api.ErrFull, api.ErrLong} {
		if told[e] < 15 {
			t.Errorf("Append told %d only %d times: the calls are not of all kinds", e, told[e])
		}
	}
}

// TestOneAlone: what a place has does not hang on what else is appended, given up, or
// opened: each is held against an Append of its bytes alone.
func TestOneAlone(t *testing.T) { // P14.8
	r := rand.New(rand.NewSource(8))
	for range 100 {
		p := made(t, []int{64}, nil)
		c := newPair(t, p, 0)
		b := someBytes(r, r.Intn(513))
		for range r.Intn(8) {
			c.append(someBytes(r, r.Intn(513)))
		}
		given := bytes.Clone(b)
		x, e := c.m.append(b)
		if e != api.OK {
			continue
		}
		appends(t, c.h, b, x)
		for range 40 {
			if y := c.somePlace(r); r.Intn(2) == 0 && (y.At != x.At || y.Len != x.Len) {
				c.free(y)
			} else {
				c.append(someBytes(r, r.Intn(513)))
			}
			reads(t, c.h, x, given)
		}
	}
}
