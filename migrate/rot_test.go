package migrate

import (
	"bytes"
	"math/rand"
	"testing"

	"muniment/api"
	"muniment/plant"
)

// noneIsWrong holds that no tape has anything but right copies of these objects.
func (s *stand) noneIsWrong(objects map[string][]byte) {
	s.t.Helper()
	for k, v := range s.tapes {
		at := 0
		for _, x := range v.List() {
			id, b, e := v.Read(x)
			if want, is := objects[id]; e != api.OK || !is || !bytes.Equal(b, want) {
				s.t.Fatalf("the tape %d has a wrong copy of %q at %v: %d", k, id, x, e)
			}
			at += x.Len
		}
		if at != s.lengths()[k] {
			s.t.Fatalf("the tape %d has something else at %d", k, at)
		}
	}
}

// TestHotByteTurned: one byte of the hot copy, each of them, ahead of each step: what is
// copied is right, and what is named; it is as it was, or let go, and the next one comes.
func TestHotByteTurned(t *testing.T) { // P16.5
	r := rand.New(rand.NewSource(1))
	objects := map[string][]byte{"a": someBytes(r, 100), "b": someBytes(r, 30)}
	for steps := range 3 {
		let := 0
		for i := range 3 * 64 {
			s := made(t, 2, 100, 100)
			s.put("a", objects["a"])
			s.put("b", objects["b"])
			s.works(toTwo[:steps]...)
			if !s.p.Rot(hotDisk, i/64, i%64, 1<<r.Intn(8)) {
				t.Fatal("it did not rot")
			}
			_, e := s.h.Read(place(hotDisk, 0, 3))
			for range 8 {
				s.step()
			}
			s.isBrought("b")
			s.noneIsWrong(objects)
			if e == api.OK {
				s.isBrought("a")
				continue
			}
			let++
			s.copiesAre("a", place(hotDisk, 0, 3))
			s.stays(place(hotDisk, 0, 3))
		}
		if let < 100 {
			t.Errorf("only %d times something rotted", let)
		}
	}
}

// TestHotCopyOfAnother: the hot copy looks like that of another object, ahead of each
// step.
func TestHotCopyOfAnother(t *testing.T) { // P16.5
	for _, other := range [][]byte{ones(64), make([]byte, 60), make([]byte, 1)} {
		for steps := range 3 {
			s := made(t, 2, 100, 100)
			s.put("a", ones(60))
			p := s.p.Clone()
			s.works(toTwo[:steps]...)
			lengths := s.lengths()
			like := &stand{t: t, p: p}
			like.open()
			ok(t, like.h.Free(place(hotDisk, 0, 2)))
			like.hot(other)
			s.turnInto(p, hotDisk, 0, 2)
			if b, e := s.h.Read(place(hotDisk, 0, 2)); e != api.OK || !bytes.Equal(b, other) {
				t.Fatal("it does not look like another one")
			}
			s.works(api.WorkNone, api.WorkNone)
			s.lengthsAre(lengths...)
			s.copiesAre("a", place(hotDisk, 0, 2))
		}
	}
}

// turnInto turns bytes of a device, so that it has what that of another plant has there.
func (s *stand) turnInto(p *plant.Plant, dev, at, n int) {
	s.t.Helper()
	for i := at; i < at+n; i++ {
		want, e := p.Read(dev, i)
		ok(s.t, e)
		b, e := s.p.Read(dev, i)
		ok(s.t, e)
		for j := range b {
			if b[j] != want[j] && !s.p.Rot(dev, i, j, int(b[j]^want[j])) {
				s.t.Fatal("it did not rot")
			}
		}
	}
}

// TestTapeByteTurned: one byte of a copy on a tape, each of them, ahead of its being read
// back: the record does not name it, and the object is brought by other copies.
func TestTapeByteTurned(t *testing.T) { // P16.2, P16.5
	r := rand.New(rand.NewSource(2))
	b := someBytes(r, 100)
	for tape := range 2 {
		for steps := tape + 1; steps <= 2; steps++ {
			for i := range 4 * 64 {
				s := made(t, 2, 100, 100)
				s.put("a", b)
				s.works(toTwo[:steps]...)
				ok(t, s.tapes[tape].Flush())
				if !s.p.Rot(3+tape, i/64, i%64, 1<<r.Intn(8)) {
					t.Fatal("it did not rot")
				}
				s.works(toTwo[steps:2]...)
				s.works(api.WorkNone)
				s.copiesAre("a", place(hotDisk, 0, 3))
				s.stays(place(hotDisk, 0, 3))
				s.works(append(toTwo, api.WorkNone)...)
				s.copiesAre("a", place(3, 4, 4), place(4, 4, 4))
			}
		}
	}
}

// TestCopyOfAnother: what is read back looks like another object: of another id, of other
// bytes, of another length.
func TestCopyOfAnother(t *testing.T) { // P16.2, P16.5
	others := []struct {
		id string
		b  []byte
	}{{"b", ones(60)}, {"a", make([]byte, 60)}, {"a", ones(61)}, {"aa", ones(60)}, {"a", ones(59)}}
	for tape := range 2 {
		for _, other := range others {
			s := made(t, 2, 100, 100)
			s.put("a", ones(60))
			like := &stand{t: t, p: s.p.Clone()}
			like.open()
			x := like.cold(tape, other.id, other.b)
			s.works(api.WorkCopy, api.WorkCopy)
			ok(t, s.tapes[tape].Flush())
			s.turnInto(like.p, 3+tape, 0, 4)
			if id, b, e := s.tapes[tape].Read(x); id != other.id || !bytes.Equal(b, other.b) || e != api.OK {
				t.Fatal("it does not look like another one")
			}
			s.works(api.WorkNone)
			s.copiesAre("a", place(hotDisk, 0, 2))
			s.works(append(toTwo, api.WorkNone)...)
			s.copiesAre("a", place(3, 4, 4), place(4, 4, 4))
		}
	}
}

// TestRotAndTheNext: the one whose copy rotted is let go; that of the next id comes first.
func TestRotAndTheNext(t *testing.T) { // P16.2
	s := made(t, 1, 100)
	s.put("a", ones(5))
	s.put("b", ones(5))
	s.works(api.WorkCopy)
	ok(t, s.tapes[0].Flush())
	s.p.Rot(3, 1, 0, 1)
	s.works(api.WorkNone)
	s.works(toOne...)
	s.copiesAre("b", place(3, 3, 3))
	s.works(append(toOne, api.WorkNone)...)
	s.copiesAre("a", place(3, 6, 3))
}

// TestAnyRot: bytes of the hot disk and of tapes turn at any time: a record never comes to
// name a copy that is not right then.
func TestAnyRot(t *testing.T) { // P16.5
	for seed := range int64(150) {
		r := rand.New(rand.NewSource(seed))
		s := made(t, 1+r.Intn(3), 300, 300, 300)
		for i := range 80 {
			if i < 20 && r.Intn(3) == 0 {
				b := someBytes(r, r.Intn(300))
				if x, e := s.h.Append(b); e == api.OK {
					s.set(recordOf(string([]byte{byte('a' + i)}), b, x))
				}
			}
			for range r.Intn(4) {
				s.p.Rot(hotDisk, r.Intn(96), r.Intn(64), r.Intn(256))
				s.p.Rot(3+r.Intn(3), r.Intn(300), r.Intn(64), r.Intn(256))
			}
			if r.Intn(4) == 0 {
				ok(t, s.tapes[r.Intn(3)].Flush())
			}
			s.step() // it holds what the record names ahead of any more rot
		}
	}
}
