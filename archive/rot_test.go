package archive

import (
	"bytes"
	"math/rand"
	"slices"
	"testing"

	"muniment/api"
)

// raw is what a device has at a place.
func (s *stand) raw(x api.Place) string {
	s.t.Helper()
	var all []byte
	for i := range x.Len {
		b, e := s.p.Read(x.Dev, x.At+i)
		ok(s.t, e)
		all = append(all, b...)
	}
	return string(all)
}

// seen has what the places that records name had when they were named first.
type seen map[api.Place]string

// look looks at all places that records name, and forgets all others: these may be written
// over.
func (s *stand) look(were seen) seen {
	s.t.Helper()
	are := seen{}
	for _, r := range s.a.records() {
		for _, x := range r.Copies {
			x.Bad = false
			are[x] = s.raw(x)
			if was, is := were[x]; is {
				are[x] = was
			}
		}
	}
	return are
}

// mustBeTold tells whether an object has a copy that is named, not Bad, and as it was.
func (s *stand) mustBeTold(id string, were seen) bool {
	s.t.Helper()
	r, _ := s.a.lookUp(id)
	return slices.ContainsFunc(r.Copies, func(x api.Place) bool { return !x.Bad && s.raw(x) == were[x] })
}

// getsRotten holds what Get answers of all objects that are not deleted: their bytes, or
// ErrCorrupt, if no copy is right for certain. It tells of how many there are no bytes.
func (s *stand) getsRotten(were seen) (lost int) {
	s.t.Helper()
	for _, id := range s.m.ids() {
		b, e := s.a.Get(id)
		switch {
		case e == api.OK && string(b) == s.m.objects[id].bytes:
		case e == api.ErrCorrupt && len(b) == 0 && !s.mustBeTold(id, were):
			lost++
		default:
			s.t.Fatalf("Get of %q: %x, %d", id, b, e)
		}
	}
	return lost
}

// sameButBytes holds that the archive is as the plain one, but for the bytes of objects.
func (s *stand) sameButBytes(were seen) {
	s.t.Helper()
	l := slices.DeleteFunc(s.m.known(), func(x known) bool { return x.call == "get" && x.e == api.OK })
	if x := differs(s.a, s.p, l); x != "" {
		s.t.Fatalf("it is not as it was: %s", x)
	}
	s.getsRotten(were)
}

// half is an archive with hot objects, and with cold ones that have two copies each.
func half(t *testing.T) *stand {
	t.Helper()
	s := formatted(t, docShape, 2)
	s.does(put("c", ones(100)), put("d", ""))
	s.migrates()
	s.does(put("h", ones(100)), put("i", ""))
	return s
}

// TestByteTurned: one byte of a copy, each of them, turned to any other.
func TestByteTurned(t *testing.T) { // P21.3, T3
	t.Parallel()
	r := rand.New(rand.NewSource(1))
	base := half(t)
	were := base.look(nil)
	hot := 0
	for x := range were {
		for i := range x.Len * 64 {
			s := &stand{t: t, p: base.p.Clone(), m: base.m}
			if !s.p.Rot(x.Dev, x.At+i/64, i%64, 1+r.Intn(255)) {
				t.Fatalf("%v does not rot", x)
			}
			s.open()
			lost := s.getsRotten(were)
			if lost > 0 && x.Dev != api.DevHot {
				t.Fatalf("byte %d of %v: bytes of an object are lost", i, x)
			}
			hot += lost
			if i%16 == 0 {
				s.sameButBytes(were)
			}
		}
	}
	if hot < 100 {
		t.Errorf("only %d times a hot copy was not right", hot)
	}
}

// TestNoCopyRight: an object of which no copy is right is still there.
func TestNoCopyRight(t *testing.T) { // P21.3, T3
	s := half(t)
	were := s.look(nil)
	for x := range were {
		for i := range x.Len {
			s.p.Rot(x.Dev, x.At+i, 9, 0x55)
		}
	}
	for _, again := range []bool{false, true} {
		if again {
			for range 7 {
				s.step(scrubbing)
			}
			s.open()
		}
		for _, id := range s.m.ids() {
			if b, e := s.a.Get(id); len(b) > 0 || e != api.ErrCorrupt {
				t.Errorf("Get of %q: %q, %d", id, b, e)
			}
			s.copiesAre(id, 0)
			s.refuses(put(id, ""), api.ErrTwice)
		}
		s.sameButBytes(were)
	}
	s.does(lock("c", 3), hold("h", true), del("i"), get("i"), put("new", ones(9)), get("new"))
	s.open()
	s.does(stat("c"), stat("h"), get("i"), get("new"))
}

// fails1 holds what a call answers.

// TestBadIsNotRead: a copy that was called bad is read no more, also if it is right again.
func TestBadIsNotRead(t *testing.T) { // P21.3
	s := cold(t)
	s.rots(api.DevTape, 1, 7)
	s.works(scrubbing, api.WorkMend, api.WorkPass)
	s.rots(api.DevTape, 1, 7)
	s.copiesAre("b", 2)
	r, _ := s.a.lookUp("b")
	if len(r.Copies) != 3 || !r.Copies[0].Bad {
		t.Fatalf("the copies are %v", r.Copies)
	}
	for _, x := range r.Copies[1:] {
		s.rots(x.Dev, x.At, 5)
	}
	s.refuses(get("b"), api.ErrCorrupt)
	s.copiesAre("b", 0)
}

// TestMended: rot spares one copy of each cold object, ever again; behind as many passes as
// replicas each has all of them.
func TestMended(t *testing.T) { // P21.7, T5
	t.Parallel()
	for seed := range int64(12) {
		r := rand.New(rand.NewSource(seed))
		n := 1 + int(seed)%3
		s := formatted(t, wide, n)
		for _, id := range []string{"a", "b", "c", "d"} {
			s.does(put(id, someBytes(r, someLength(r)%513)))
		}
		s.migrates()
		for range 6 {
			s.rotsAllButOne(r)
			s.same()
			for range n {
				for s.step(scrubbing) != api.WorkPass {
				}
			}
			for _, id := range s.m.ids() {
				s.copiesAre(id, n)
			}
			s.open()
			s.same()
		}
	}
}

// rotsAllButOne turns bytes of all copies of each object but one.
func (s *stand) rotsAllButOne(r *rand.Rand) {
	s.t.Helper()
	for _, o := range s.a.records() {
		l := slices.DeleteFunc(o.Copies, func(x api.Place) bool { return x.Bad })
		spared := r.Intn(len(l))
		for i, x := range l {
			if i != spared {
				s.p.Rot(x.Dev, x.At+r.Intn(x.Len), r.Intn(64), 1+r.Intn(255))
			}
		}
	}
}

// TestAnyRot: rows of calls and work, with crashes, and rot of the hot disk and of tapes.
func TestAnyRot(t *testing.T) { // P21.3, T1, T2, T3, T4, T6
	t.Parallel()
	lost := 0
	for seed := range int64(80) {
		r := rand.New(rand.NewSource(seed))
		s := formatted(t, wide, 1+int(seed)%3)
		were := seen{}
		for range 100 {
			if r.Intn(3) == 0 {
				s.rotsSomewhere(r, were)
			}
			if o := someOp(r, s.m); o.call != "get" {
				s.does(o)
			}
			if r.Intn(2) == 0 {
				s.step(r.Intn(4))
			}
			were = s.look(were)
			if r.Intn(15) == 0 {
				s.boot(someKeep(r)...)
			}
			lost += s.getsRotten(were)
		}
		s.sameButBytes(were)
		s.proofsHold()
	}
	if lost < 100 {
		t.Errorf("only %d times bytes were lost", lost)
	}
}

// rotsSomewhere turns bytes of a copy, or of what no record names.
func (s *stand) rotsSomewhere(r *rand.Rand, were seen) {
	var l []api.Place
	for x := range were {
		l = append(l, x)
	}
	slices.SortFunc(l, func(a, b api.Place) int { return 4096*(a.Dev-b.Dev) + a.At - b.At })
	for range 1 + r.Intn(3) {
		dev, at := api.DevHot+r.Intn(4), r.Intn(40)
		if len(l) > 0 && r.Intn(3) > 0 {
			x := l[r.Intn(len(l))]
			dev, at = x.Dev, x.At+r.Intn(x.Len)
		}
		s.p.Rot(dev, at, r.Intn(64), 1+r.Intn(255))
	}
}

// TestRotOfTheCatalogue: whatever the journal and the catalogue's disk have, nothing
// panics, and each call ends.
func TestRotOfTheCatalogue(t *testing.T) { // T3, R1
	t.Parallel()
	base := []*stand{several(t), begun(t), waiting(t), copied(t)}
	corrupt := 0
	for seed := range int64(400) {
		r := rand.New(rand.NewSource(seed))
		from := base[seed%4]
		s := &stand{t: t, p: from.p.Clone(), m: from.m}
		s.p.Boot([]int{1})
		if r.Intn(2) == 0 { // a part of the calls is done by one that was opened ahead of the rot
			s.a = opens(t, s.p)
		}
		dev := r.Intn(2)
		for range 1 + r.Intn(4) {
			s.p.Rot(dev, r.Intn(min(100, wide.Disks[dev])), r.Intn(64), 1<<r.Intn(8))
		}
		if s.a == nil {
			a, e := Open(s.p)
			if e == api.ErrCorrupt && a == nil {
				corrupt++
				continue
			}
			ok(t, e)
			s.a = a
		}
		s.asksAnything(r)
	}
	if corrupt < 50 || corrupt > 195 {
		t.Errorf("Open answered %d times of 200 that it is corrupt", corrupt)
	}
}

// asksAnything asks all calls, whatever they answer.
func (s *stand) asksAnything(r *rand.Rand) {
	s.t.Helper()
	l := append(s.m.asks(), changes...)
	for _, i := range r.Perm(len(l)) {
		got, e := l[i].at(s.a, s.p)
		if e != api.OK && got != l[i].none() {
			s.t.Fatalf("%+v: %s beside %d", l[i], got, e)
		}
		if w, e := s.a.Step(r.Intn(4)); e != api.OK && w != 0 {
			s.t.Fatalf("a step did %d, %d", w, e)
		}
	}
}

// TestAnyDisks: whatever the disks have, nothing panics; Format makes an archive of it.
func TestAnyDisks(t *testing.T) { // P21.1, R1
	r := rand.New(rand.NewSource(1))
	for i := range 60 {
		s := begun(t)
		s.m = newPlain()
		s.m.now = s.p.Now()
		for range 1 + r.Intn(300) {
			dev := r.Intn(3)
			b := bytes.Repeat([]byte{byte(r.Intn(4) * 0x55)}, 64)
			if i%2 == 0 {
				b = []byte(someBytes(r, 64))
			}
			s.p.Write(dev, r.Intn(min(150, wide.Disks[dev])), b)
		}
		if a, e := Open(s.p); e != api.OK && (a != nil || e != api.ErrCorrupt) {
			t.Fatalf("Open: %v, %d", a, e)
		}
		ok(t, Format(s.p, api.Config{Replicas: 2}))
		s.open()
		s.same()
		s.does(put("a", ones(200)), put("b", ""), lock("a", 3), get("a"))
		s.migrates()
		s.copiesAre("a", 2)
		s.open()
		s.same()
	}
}
