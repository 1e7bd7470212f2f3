package plant

import (
	"bytes"
	"math/rand"
	"slices"
	"testing"

	"muniment/api"
)

// plain is a plant as the chapter's words have it, without any thrift: lists of
// what is flushed, and one list of all writes that wait.
type plain struct {
	shape   api.Shape
	flushed [][][]byte
	waiting []plainWrite
	on      bool
	fuse    int
	steps   int
	clock   int
}

type plainWrite struct {
	dev, place int
	b          []byte
}

func newPlain(s api.Shape) *plain {
	m := &plain{shape: s, on: true, fuse: -1}
	for _, n := range s.Disks {
		var sectors [][]byte
		for range n {
			sectors = append(sectors, make([]byte, 64))
		}
		m.flushed = append(m.flushed, sectors)
	}
	for range s.Tapes {
		m.flushed = append(m.flushed, nil)
	}
	return m
}

func (m *plain) there(dev int) bool { return dev >= 0 && dev < len(m.flushed) }
func (m *plain) disk(dev int) bool  { return dev >= 0 && dev < len(m.shape.Disks) }

func (m *plain) Len(dev int) (int, api.Errno) {
	if !m.there(dev) {
		return 0, api.ErrPlace
	}
	n := len(m.flushed[dev])
	if !m.disk(dev) {
		for _, w := range m.waiting {
			if w.dev == dev {
				n++
			}
		}
	}
	return n, api.OK
}

func (m *plain) Read(dev, place int) ([]byte, api.Errno) {
	if !m.on {
		return nil, api.ErrPower
	}
	if n, e := m.Len(dev); e != api.OK || place < 0 || place >= n {
		return nil, api.ErrPlace
	}
	for _, w := range slices.Backward(m.waiting) {
		if w.dev == dev && w.place == place {
			return w.b, api.OK
		}
	}
	return m.flushed[dev][place], api.OK
}

func (m *plain) step() bool {
	if m.fuse == 0 {
		m.on, m.fuse = false, -1
		return false
	}
	if m.fuse > 0 {
		m.fuse--
	}
	m.steps++
	return true
}

func (m *plain) Write(dev, place int, b []byte) api.Errno {
	if !m.on {
		return api.ErrPower
	}
	if !m.disk(dev) || place < 0 || place >= m.shape.Disks[dev] {
		return api.ErrPlace
	}
	if len(b) != 64 {
		return api.ErrBytes
	}
	if !m.step() {
		return api.ErrPower
	}
	m.waiting = append(m.waiting, plainWrite{dev, place, bytes.Clone(b)})
	return api.OK
}

func (m *plain) Append(dev int, b []byte) (int, api.Errno) {
	if !m.on {
		return 0, api.ErrPower
	}
	if !m.there(dev) || m.disk(dev) {
		return 0, api.ErrPlace
	}
	if len(b) != 64 {
		return 0, api.ErrBytes
	}
	n, _ := m.Len(dev)
	if n == m.shape.Tapes[dev-len(m.shape.Disks)] {
		return 0, api.ErrFull
	}
	if !m.step() {
		return 0, api.ErrPower
	}
	m.waiting = append(m.waiting, plainWrite{dev, n, bytes.Clone(b)})
	return n, api.OK
}

func (m *plain) keep(w plainWrite, b []byte) {
	if m.disk(w.dev) {
		m.flushed[w.dev][w.place] = b
	} else {
		m.flushed[w.dev] = append(m.flushed[w.dev], b)
	}
}

func (m *plain) Flush(dev int) api.Errno {
	if !m.on {
		return api.ErrPower
	}
	if !m.there(dev) {
		return api.ErrPlace
	}
	if !m.step() {
		return api.ErrPower
	}
	var others []plainWrite
	for _, w := range m.waiting {
		if w.dev == dev {
			m.keep(w, w.b)
		} else {
			others = append(others, w)
		}
	}
	m.waiting = others
	return api.OK
}

func (m *plain) Fuse(n int) {
	if m.on {
		m.fuse = n
	}
}

func (m *plain) Boot(keep []int) {
	ended := map[int]bool{}
	for i, w := range m.waiting {
		k := 0
		if len(keep) > 0 {
			k = keep[i%len(keep)]
		}
		odd := k%2 != 0
		twoMore := ((k%4)+4)%4 == 2
		switch {
		case m.disk(w.dev):
			if odd {
				m.keep(w, w.b)
			}
		case ended[w.dev]:
		case odd:
			m.keep(w, w.b)
		case twoMore:
			m.keep(w, append(bytes.Clone(w.b[:32]), make([]byte, 32)...))
			ended[w.dev] = true
		default:
			ended[w.dev] = true
		}
	}
	m.waiting, m.on, m.fuse = nil, true, -1
}

func (m *plain) Rot(dev, place, at, by int) bool {
	if !m.there(dev) || place < 0 || place >= len(m.flushed[dev]) || at < 0 || at > 63 {
		return false
	}
	b := bytes.Clone(m.flushed[dev][place])
	b[at] ^= byte(by & 255)
	m.flushed[dev][place] = b
	return true
}

func (m *plain) Tick(n int) {
	for ; n > 0 && m.clock < api.MaxClock; n -= min(n, 1<<38) {
		m.clock = min(m.clock+min(n, 1<<38), api.MaxClock)
	}
}

func (m *plain) clone() *plain {
	c := *m
	c.waiting = slices.Clone(m.waiting)
	c.flushed = nil
	for _, f := range m.flushed {
		c.flushed = append(c.flushed, slices.Clone(f)) // no list of bytes is ever changed
	}
	return &c
}

// same holds all that may be asked of p against m.
func same(t *testing.T, p *Plant, m *plain) {
	t.Helper()
	if p.On() != m.on || p.Steps() != m.steps || p.Now() != m.clock {
		t.Fatalf("On %v, Steps %d, Now %d; want %v, %d, %d", p.On(), p.Steps(), p.Now(), m.on, m.steps, m.clock)
	}
	if s := p.Shape(); !slices.Equal(s.Disks, m.shape.Disks) || !slices.Equal(s.Tapes, m.shape.Tapes) {
		t.Fatalf("Shape %v, want %v", s, m.shape)
	}
	for dev := -1; dev <= len(m.flushed); dev++ {
		n, e := p.Len(dev)
		if wn, we := m.Len(dev); n != wn || e != we {
			t.Fatalf("Len(%d): %d, %v; want %d, %v", dev, n, e, wn, we)
		}
		for place := -1; place <= n; place++ {
			b, e := p.Read(dev, place)
			if w, we := m.Read(dev, place); !bytes.Equal(b, w) || e != we {
				t.Fatalf("Read(%d, %d): %x, %v; want %x, %v", dev, place, b, e, w, we)
			}
		}
	}
}

// someKeep is a list as a script may hand it to Boot.
func someKeep(r *rand.Rand) []int {
	if r.Intn(4) == 0 {
		return nil
	}
	keep := make([]int, r.Intn(7))
	for i := range keep {
		keep[i] = r.Intn(9) - 4
		if r.Intn(3) > 0 {
			keep[i] |= 1
		}
	}
	return keep
}

// someCall does one call to both, and holds the answers against each other.
func someCall(t *testing.T, r *rand.Rand, p *Plant, m *plain) {
	t.Helper()
	dev, place := r.Intn(len(m.flushed)), r.Intn(5)
	b := make([]byte, 64)
	r.Read(b)
	switch r.Intn(40) { // wrong ones are rare, so that many writes wait at a time
	case 0:
		dev = len(m.flushed)
	case 1:
		dev = -1
	case 2:
		place = -1
	case 3:
		b = b[:r.Intn(64)]
	}
	k := r.Intn(100)
	if !m.on && r.Intn(2) == 0 {
		k = 90
	}
	switch {
	case k < 35:
		if e, w := p.Write(dev, place, b), m.Write(dev, place, b); e != w {
			t.Fatalf("Write(%d, %d, %d bytes): %v, want %v", dev, place, len(b), e, w)
		}
	case k < 75:
		n, e := p.Append(dev, b)
		if wn, we := m.Append(dev, b); n != wn || e != we {
			t.Fatalf("Append(%d, %d bytes): %d, %v; want %d, %v", dev, len(b), n, e, wn, we)
		}
	case k < 83:
		if e, w := p.Flush(dev), m.Flush(dev); e != w {
			t.Fatalf("Flush(%d): %v, want %v", dev, e, w)
		}
	case k < 87:
		n := r.Intn(30) - 2
		p.Fuse(n)
		m.Fuse(n)
	case k < 91:
		keep := someKeep(r)
		p.Boot(keep)
		m.Boot(keep)
	case k < 97:
		at, by := r.Intn(66)-1, r.Intn(1024)-512
		if x, w := p.Rot(dev, place, at, by), m.Rot(dev, place, at, by); x != w {
			t.Fatalf("Rot(%d, %d, %d, %d): %v, want %v", dev, place, at, by, x, w)
		}
	default:
		n := r.Intn(100) - 20
		p.Tick(n)
		m.Tick(n)
	}
}

func TestAnyCallsAreAsWritten(t *testing.T) { // P3.1 to P3.9
	for seed := range int64(400) {
		r := rand.New(rand.NewSource(seed))
		s := api.Shape{Disks: make([]int, r.Intn(4)), Tapes: make([]int, r.Intn(4))}
		for i := range s.Disks {
			s.Disks[i] = 1 + r.Intn(5)
		}
		for i := range s.Tapes {
			s.Tapes[i] = 1 + r.Intn(9)
		}
		p, e := New(s)
		if len(s.Disks)+len(s.Tapes) == 0 {
			if p != nil || e != api.ErrShape {
				t.Fatalf("New(%v): %v", s, e)
			}
			continue
		}
		m := newPlain(s)
		for range 120 {
			same(t, p, m)
			someCall(t, r, p, m)
		}
		same(t, p, m)
	}
}

// TestClonesGoTheirOwnWays: what is done to one is not to be seen in the other,
// and each goes on as if there were no other.
func TestClonesGoTheirOwnWays(t *testing.T) { // P3.8, R7
	for seed := range int64(200) {
		r := rand.New(rand.NewSource(seed))
		s := api.Shape{Disks: []int{4, 2}, Tapes: []int{5, 7}}
		p, _ := New(s)
		plants, plains := []*Plant{p}, []*plain{newPlain(s)}
		for range 200 {
			i := r.Intn(len(plants))
			if len(plants) < 4 && r.Intn(20) == 0 {
				plants, plains = append(plants, plants[i].Clone()), append(plains, plains[i].clone())
			}
			someCall(t, r, plants[i], plains[i])
			for j := range plants {
				same(t, plants[j], plains[j])
			}
		}
	}
}
