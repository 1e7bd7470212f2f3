package scrub

import (
	"maps"
	"math/rand"
	"slices"
	"testing"

	"muniment/api"
	"muniment/plant"
)

// TestByteTurned: one byte of a copy on tape, each of them, ahead of a step.
func TestByteTurned(t *testing.T) { // P17.3
	r := rand.New(rand.NewSource(1))
	b := someBytes(r, 100)
	for tape := range 2 {
		for i := range 4 * 64 {
			s := made(t, 2, 100, 100)
			s.put("a", b, 0, 1)
			if !s.p.Rot(3+tape, i/64, i%64, 1<<r.Intn(8)) {
				t.Fatal("it did not rot")
			}
			s.rightAre("a", 1)
			s.works(api.WorkMend, api.WorkPass, api.WorkScrub)
			want := []api.Place{place(3, 0, 4), place(4, 0, 4), place(3+tape, 4, 4)}
			want[tape].Bad = true
			s.copiesAre("a", want...)
			s.rightAre("a", 2)
		}
	}
}

// TestHotByteTurned: one byte of the copy on the hot disk, each of them, ahead of a step:
// it is Bad, or was not changed.
func TestHotByteTurned(t *testing.T) { // P17.3
	r := rand.New(rand.NewSource(2))
	b := someBytes(r, 100)
	turned := 0
	for i := range 3 * 64 {
		s := made(t, 2, 100, 100)
		x := s.cold(1, "a", b)
		s.set(recordWith("a", b, s.hot(b), x))
		if !s.p.Rot(hotDisk, i/64, i%64, 1<<r.Intn(8)) {
			t.Fatal("it did not rot")
		}
		if s.rightAt(s.record("a"), place(hotDisk, 0, 3)) {
			s.works(api.WorkScrub)
			continue
		}
		turned++
		s.works(api.WorkMend, api.WorkPass, api.WorkScrub)
		s.copiesAre("a", bad(hotDisk, 0, 3), x, place(3, 0, 4))
	}
	if turned < 100 {
		t.Errorf("only %d times something rotted", turned)
	}
}

// TestWrittenByteTurned: one byte of a copy that was just written, each of them, ahead of
// its being read back.
func TestWrittenByteTurned(t *testing.T) { // P17.3
	r := rand.New(rand.NewSource(3))
	b := someBytes(r, 100)
	for i := range 4 * 64 {
		s := made(t, 2, 100, 100)
		s.put("a", b, 1)
		_, spies := s.spies()
		spies[0].flushed = func() {
			if !s.p.Rot(3, i/64, i%64, 1<<r.Intn(8)) {
				t.Fatal("it did not rot")
			}
		}
		s.works(api.WorkMend)
		s.copiesAre("a", place(4, 0, 4))
		spies[0].flushed = nil
		s.works(api.WorkPass, api.WorkMend, api.WorkPass, api.WorkScrub)
		s.copiesAre("a", place(4, 0, 4), place(3, 4, 4))
	}
}

// TestWrittenCopyOfAnother: what is read back looks like another object: of another id, of
// other bytes, of another length.
func TestWrittenCopyOfAnother(t *testing.T) { // P17.3
	others := []struct {
		id string
		b  []byte
	}{{"b", ones(60)}, {"a", make([]byte, 60)}, {"a", ones(61)}, {"aa", ones(60)}, {"a", ones(59)}}
	for _, other := range others {
		s := made(t, 2, 100, 100)
		s.put("a", ones(60), 1)
		like := &stand{t: t, p: s.p.Clone()}
		like.open()
		x := like.cold(0, other.id, other.b)
		_, spies := s.spies()
		spies[0].flushed = func() { s.turnInto(like.p, 3, 0, 4) }
		s.works(api.WorkMend)
		if id, b, e := s.tapes[0].Read(x); id != other.id || string(b) != string(other.b) || e != api.OK {
			t.Fatal("it does not look like another one")
		}
		s.copiesAre("a", place(4, 0, 4))
	}
}

// turnInto turns bytes of a device, so that it has what that of another plant has there.
func (s *stand) turnInto(p *plant.Plant, dev, at, n int) {
	s.t.Helper()
	for i := at; i < at+n; i++ {
		want, e := p.Read(dev, i)
		ok(s.t, e)
		b, e := s.p.Read(dev, i)
		ok(s.t, e)
		for j := range b {
			if b[j] != want[j] && !s.p.Rot(dev, i, j, int(b[j]^want[j])) {
				s.t.Fatal("it did not rot")
			}
		}
	}
}

// TestTurnedBack: what is called Bad stays so, also when it is right again.
func TestTurnedBack(t *testing.T) { // P17.3
	s := made(t, 2, 60, 60)
	s.put("a", ones(5), 0, 1)
	s.turn(place(3, 0, 3))
	s.works(api.WorkMend, api.WorkPass)
	s.turn(place(3, 0, 3)) // the same byte by the same
	if !s.rightAt(s.record("a"), place(3, 0, 3)) {
		t.Fatal("it is not turned back")
	}
	s.boot()
	s.works(api.WorkScrub, api.WorkPass)
	s.copiesAre("a", bad(3, 0, 3), place(4, 0, 3), place(3, 3, 3))
	s.turn(place(3, 3, 3))
	s.turn(place(4, 0, 3))
	s.works(api.WorkMend, api.WorkPass, api.WorkScrub) // a Bad one is not copied from, either
	s.copiesAre("a", bad(3, 0, 3), bad(4, 0, 3), bad(3, 3, 3))
	s.rightAre("a", 0)
}

// TestPasses: again and again rot spares one copy of each object; behind as many passes as
// there are to be copies, all are there.
func TestPasses(t *testing.T) { // P17.5
	mended := 0
	for seed := range int64(60) {
		r := rand.New(rand.NewSource(seed))
		n := 1 + r.Intn(4)
		s := made(t, n, slices.Repeat([]int{3000}, n+r.Intn(3))...)
		objects := map[string]string{}
		for range 8 {
			id := someID(r)
			if _, is := objects[id]; is {
				continue
			}
			b := someBytes(r, []int{0, 1, 56, 57, 512, r.Intn(513)}[r.Intn(6)])
			s.put(id, b, r.Perm(len(s.tapes))[:1+r.Intn(len(s.tapes))]...)
			objects[id] = string(b)
		}
		for range 6 {
			for id := range s.records() {
				s.spare(r, id)
			}
			if r.Intn(3) == 0 {
				s.boot()
			}
			s.holdsPasses(n)
			mended++
			if !maps.Equal(s.objects(), objects) {
				t.Fatal("an object is not as it was")
			}
		}
	}
	if mended < 300 {
		t.Error("too little was done")
	}
}

// TestFewTapes: where there are less tapes than copies are wanted, each has one.
func TestFewTapes(t *testing.T) { // P17.5
	for tapes := range 4 {
		s := made(t, 4, slices.Repeat([]int{60}, tapes)...)
		if tapes > 0 {
			s.put("a", ones(9), tapes-1)
		}
		for range 4 {
			s.pass()
		}
		if tapes > 0 {
			s.rightAre("a", tapes)
		}
		s.nothingChanges(func() { s.pass() })
	}
}

// TestAnyRot: bytes of the hot disk and of tapes turn at any time: what is named Bad was
// not right, and what is named else is right (step holds it); an object is never changed
// but in its Copies, and no one comes or goes.
func TestAnyRot(t *testing.T) { // P17.3, P17.6
	works := map[api.Work]int{}
	for seed := range int64(150) {
		r := rand.New(rand.NewSource(seed))
		s := made(t, 1+r.Intn(4), 300, 300, 300)
		for i := range 80 {
			if i < 20 && r.Intn(3) == 0 {
				b := someBytes(r, r.Intn(300))
				id := string([]byte{byte('a' + i)})
				if r.Intn(4) == 0 {
					if x, e := s.h.Append(b); e == api.OK {
						s.set(recordWith(id, b, x))
					}
				} else {
					s.put(id, b, r.Perm(3)[:1+r.Intn(2)]...)
				}
			}
			for range r.Intn(3) {
				s.p.Rot(hotDisk, r.Intn(96), r.Intn(64), r.Intn(256))
				s.p.Rot(3+r.Intn(3), r.Intn(300), r.Intn(64), r.Intn(256))
			}
			w, e := s.step()
			ok(t, e)
			works[w]++
		}
	}
	if works[api.WorkMend] < 1000 || works[api.WorkScrub] < 1000 || works[api.WorkPass] < 500 {
		t.Error("too little was done", works)
	}
}
