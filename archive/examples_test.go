package archive

import (
	"strings"
	"testing"

	"muniment/api"
	"muniment/verify"
)

// The document's ten examples of the whole: a plant with disks of 64, 402 and 64 sectors,
// two tapes of 100 blocks; Replicas 2.

// ones is so many bytes.
func ones(n int) string { return strings.Repeat("1", n) }

// hotSectors is how many sectors of the hot disk are named by records.
func (s *stand) hotSectors() int {
	n := 0
	for _, x := range s.a.hotPlaces() {
		n += x.Len
	}
	return n
}

func (s *stand) hotSectorsAre(want int) {
	s.t.Helper()
	if n := s.hotSectors(); n != want {
		s.t.Fatalf("%d sectors of the hot disk are in use; want %d", n, want)
	}
}

func TestExample1(t *testing.T) { // P21.2, P21.3
	s := formatted(t, docShape, 2)
	s.does(put("a", ones(100)))
	s.hotSectorsAre(3)
	s.does(get("a"), stat("a"))
	s.fails(put("a", ones(100)), api.ErrTwice)
}

func TestExample2(t *testing.T) { // P21.4
	s := formatted(t, docShape, 2)
	s.does(put("a", ones(100)), lock("a", 50))
	s.fails(del("a"), api.ErrLocked)
	s.does(tick(49))
	s.fails(del("a"), api.ErrLocked)
	s.does(tick(1), del("a"))
	s.fails(get("a"), api.ErrGone)
	s.fails(put("a", ones(100)), api.ErrTwice)
	s.hotSectorsAre(0)
}

func TestExample3(t *testing.T) { // P21.7, P21.9
	s := formatted(t, docShape, 2)
	s.does(put("b", ones(100)))
	s.works(migration, api.WorkCopy)
	s.copiesAre("b", 0)
	s.works(migration, api.WorkCopy)
	s.copiesAre("b", 0)
	s.hotSectorsAre(3)
	s.works(migration, api.WorkSwitch, api.WorkNone)
	s.copiesAre("b", 2)
	s.hotSectorsAre(0)
	s.same()
}

// cold is an archive with an object of 100 bytes, four blocks at the front of each tape.
func cold(t *testing.T) *stand {
	t.Helper()
	s := formatted(t, docShape, 2)
	s.does(put("b", ones(100)))
	s.migrates()
	s.copiesAre("b", 2)
	return s
}

func (s *stand) rots(dev, place, at int) {
	s.t.Helper()
	if !s.p.Rot(dev, place, at, 1) {
		s.t.Fatalf("nothing rots at %d, %d, %d", dev, place, at)
	}
}

func TestExample4(t *testing.T) { // P21.3, P21.7
	s := cold(t)
	s.rots(api.DevTape, 1, 7)
	s.does(get("b"))
	s.copiesAre("b", 1)
	s.works(scrubbing, api.WorkMend, api.WorkPass, api.WorkScrub, api.WorkPass)
	s.copiesAre("b", 2)
	s.same()
}

func TestExample5(t *testing.T) { // P21.3
	s := cold(t)
	s.rots(api.DevTape, 1, 7)
	s.rots(api.DevTape+1, 2, 0)
	if b, e := s.a.Get("b"); len(b) > 0 || e != api.ErrCorrupt {
		t.Errorf("Get: %q, %d", b, e)
	}
	s.copiesAre("b", 0)
	s.does(stat("b"), ids(), head(), inclusion("b", 1))
}

func TestExample6(t *testing.T) { // P21.10
	s := formatted(t, docShape, 2)
	s.does(put("a", ones(5)))
	s.p.Fuse(3)
	s.fuseBurns(put("c", ones(100)))
}

// fuseBurns holds that a call at which the power goes off was done wholly, or not at all.
func (s *stand) fuseBurns(o op) {
	s.t.Helper()
	if got, e := o.at(s.a, s.p); e != api.ErrPower || got != o.none() {
		s.t.Fatalf("%+v: %s, %d", o, got, e)
	}
	before, after := s.m.reopened(), s.m.clone()
	o.of(after)
	s.p.Boot(nil)
	s.open()
	if x := differs(s.a, s.p, before.known()); x != "" {
		s.m = after.reopened()
		s.same()
	}
}

func TestExample7(t *testing.T) { // P21.8
	s := formatted(t, docShape, 2)
	s.does(put("a", ones(100)), put("b", ones(9)))
	two, _ := s.a.Head()
	s.does(put("d", ""))
	three, e := s.a.Head()
	if two.Size != 2 || three.Size != 3 || e != api.OK {
		t.Errorf("heads of %d and %d, %d", two.Size, three.Size, e)
	}
	proof, e := s.a.Consistency(2, 3)
	if e != api.OK || !verify.Consistency(2, 3, two.Root, three.Root, proof) {
		t.Errorf("Consistency: %d", e)
	}
}

func TestExample8(t *testing.T) { // P21.8
	s := formatted(t, docShape, 2)
	s.does(put("a", ones(100)), put("b", ones(9)), del("a"))
	h, _ := s.a.Head()
	was, _ := s.m.entry(0)
	i, proof, e := s.a.Inclusion("a", 2)
	if i != 0 || e != api.OK || !verify.Inclusion(leafOf(was), 0, 2, proof, h.Root) {
		t.Errorf("Inclusion: %d, %d", i, e)
	}
	s.does(entry(0))
}

func TestExample9(t *testing.T) { // P21.4
	s := formatted(t, docShape, 2)
	s.does(put("d", ones(3)), hold("d", true))
	s.fails(del("d"), api.ErrLocked)
	s.does(tick(1 << 40))
	s.fails(del("d"), api.ErrLocked)
	s.does(hold("d", false), del("d"))
}

func TestExample10(t *testing.T) { // P21.2, P21.9
	s := formatted(t, docShape, 2)
	for i := range 10 {
		id := string(rune('a' + i))
		o := put(id, ones(512))
		if got := s.do(o); got != (i < 4) {
			t.Errorf("object %d: there is room: %v", i, got)
		}
		if i >= 4 {
			s.fails(o, api.ErrFull)
		}
	}
	s.hotSectorsAre(36)
	s.migrates()
	s.hotSectorsAre(0)
	s.does(put("e", ones(512)), put("f", ones(512)))
	s.same()
}
