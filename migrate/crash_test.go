package migrate

import (
	"maps"
	"math/rand"
	"slices"
	"testing"

	"muniment/api"
)

// keeps are lists for n writes that wait: all of them, if these are not too many, else
// those that keep a beginning, or lose one, and any others.
func keeps(n int) [][]int {
	var all [][]int
	if n <= 4 {
		all = [][]int{{}}
		for range n {
			var longer [][]int
			for _, l := range all {
				for k := range 3 {
					longer = append(longer, append(slices.Clone(l), k))
				}
			}
			all = longer
		}
		return all
	}
	r := rand.New(rand.NewSource(int64(n)))
	for i := range n + 1 {
		kept := append(slices.Repeat([]int{1}, i), slices.Repeat([]int{0}, n-i)...)
		lost, torn := slices.Repeat([]int{1}, n), slices.Clone(kept)
		if i < n {
			lost[i], torn[i] = 0, 2
		}
		some := make([]int, n)
		for i := range some {
			some[i] = []int{1, 1, 1, 0, 2, -1, -2}[r.Intn(7)]
		}
		all = append(all, kept, lost, torn, some)
	}
	return all
}

// waiting is how many blocks of tapes wait.
func (s *stand) waiting() int {
	p, n := s.p.Clone(), 0
	p.Boot(nil)
	for k, length := range s.lengths() {
		kept, _ := p.Len(api.DevTape + k)
		n += length - kept
	}
	return n
}

// begun has objects of all kinds, and is so many steps on its way with a.
func begun(t *testing.T, steps, full int) *stand {
	t.Helper()
	s := made(t, 2, 60, 60, 60)
	b := ones(60)
	x, y := s.hot(b), s.hot(b)
	r := recordOf("a", b, place(0, 1, 1), x, bad(5, 50, 4), y)
	r.Index, r.Expiry, r.Hold = 5, 99, true
	s.set(r)
	s.put("b", ones(200))
	s.set(recordOf("c", ones(3), s.cold(0, "c", ones(3)), bad(4, 40, 3)))
	ok(t, s.tapes[0].Flush())
	gone := recordOf("d", ones(5))
	gone.Gone = true
	s.set(gone)
	s.set(recordOf("e", ones(7))) // it names no copy
	s.lay("c", []byte{2})
	s.lay("ox", []byte("?"))
	ok(t, s.c.Checkpoint())
	for range full { // so that the journal has less room
		s.lay("c", []byte{2})
	}
	s.works(toTwo[:steps]...)
	return s
}

// aTurned are the Copies of a when it is brought.
var aTurned = []api.Place{place(0, 1, 1), bad(5, 50, 4), place(3, 3, 4), place(4, 0, 4)}

// asBefore holds that behind a crash all objects are those that were there, and that each
// that named a right copy does so still. Only the one at hand may have been turned.
func (s *stand) asBefore(pairs map[string]string, named map[string]bool, done bool) {
	s.t.Helper()
	s.open()
	first := s.pairs()
	turned := s.onlyCopiesChange(pairs)
	s.open()
	if !maps.Equal(s.pairs(), first) {
		s.t.Fatal("opened twice it is not the same")
	}
	if turned != "" && turned != "a" || done && turned != "a" {
		s.t.Fatalf("%q was changed", turned)
	}
	if turned == "a" {
		s.copiesAre("a", aTurned...)
	}
	for id, r := range s.records() {
		if named[id] && !s.named(r) {
			s.t.Fatalf("%q names no right copy: %v", id, r.Copies)
		}
	}
}

// goesOn holds that all that waits is brought by a new engine.
func (s *stand) goesOn() {
	s.t.Helper()
	for range 10 {
		if _, e := s.step(); e != api.OK {
			s.t.Fatal(e)
		}
	}
	s.isBrought("a")
	s.isBrought("b")
	s.copiesAre("c", place(3, 0, 3), bad(4, 40, 3))
	if x := s.hot(ones(512)); x.At != 0 {
		s.t.Fatal("the hot disk is not free")
	}
}

// cutOff does the step behind so many others at each fuse, till it is not cut off any
// more, and crashes with each part kept. It tells how often it was cut off.
func cutOff(t *testing.T, steps, full int) int {
	t.Helper()
	for fuse := 0; ; fuse++ {
		e := api.OK
		for _, keep := range keeps(begun(t, steps, full).waiting() + min(fuse, 5)) {
			s := begun(t, steps, full)
			pairs, named := s.pairs(), map[string]bool{}
			for id, r := range s.records() {
				named[id] = !r.Gone && s.named(r)
			}
			s.p.Fuse(fuse)
			var w api.Work
			w, e = s.step()
			s.p.Boot(keep)
			s.asBefore(pairs, named, w == api.WorkSwitch)
			s.goesOn()
		}
		if e != api.ErrPower {
			return fuse
		}
	}
}

// TestCutOff: each step of an object's way, cut off at each step of the plant.
func TestCutOff(t *testing.T) { // P16.4
	want := []int{4, 4, 2 + 2} // a copy's blocks; two flushes, and what Apply lays down, and flushes
	for steps := range 3 {
		if fuse := cutOff(t, steps, 0); fuse < want[steps] {
			t.Errorf("behind %d steps: cut off %d times", steps, fuse)
		}
	}
}

// TestCutOffInACheckpoint: the record is applied to a catalogue whose journal is full.
func TestCutOffInACheckpoint(t *testing.T) { // P16.4
	most, full := 0, 0
	for n := range 70 {
		s := begun(t, 2, n)
		before := s.p.Steps()
		s.works(api.WorkSwitch)
		if done := s.p.Steps() - before; done > most {
			most, full = done, n
		}
	}
	if fuse := cutOff(t, 2, full); fuse != most || most < 2+10 {
		t.Errorf("cut off %d times: there was no checkpoint", fuse)
	}
}

// TestLostRoom: what was copied and is not named is not there, but for its blocks.
func TestLostRoom(t *testing.T) { // P16.4
	s := made(t, 2, 40, 40)
	s.put("a", ones(5))
	s.works(api.WorkCopy, api.WorkCopy)
	s.boot(1)
	s.lengthsAre(3, 3)
	s.copiesAre("a", place(hotDisk, 0, 2))
	s.works(append(toTwo, api.WorkNone)...)
	s.copiesAre("a", place(3, 3, 3), place(4, 3, 3))
	s.put("b", ones(5))
	s.works(api.WorkCopy, api.WorkCopy)
	s.boot(1, 1, 1, 1, 2) // of the second one a block, and a torn one
	s.lengthsAre(9, 8)
	s.works(append(toTwo, api.WorkNone)...)
	s.copiesAre("b", place(3, 9, 3), place(4, 8, 3))
}

// TestAnyCrashes: objects come, and are brought, while the power goes off at any time, and
// any part is kept; what is given up of the hot disk is written over at once.
func TestAnyCrashes(t *testing.T) { // P16.3, P16.4, P16.5
	crashes := 0
	for seed := range int64(100) {
		r := rand.New(rand.NewSource(seed))
		s := made(t, 1+r.Intn(3), 2000, 2000, 2000)
		for i := range 100 {
			b := someBytes(r, r.Intn(513))
			if x, e := s.h.Append(b); e == api.OK && r.Intn(4) == 0 {
				s.set(recordOf(string([]byte{byte('a' + r.Intn(26)), byte('a' + i%26), byte('a' + i/26)}), b, x))
			} else if e == api.OK {
				ok(t, s.h.Free(x)) // but it was written over what had been there
			}
			if r.Intn(3) == 0 {
				s.p.Fuse(r.Intn(8))
			}
			before := s.pairs()
			if _, e := s.step(); e != api.OK && e != api.ErrPower {
				t.Fatal(e)
			}
			if s.p.On() {
				s.p.Fuse(-1)
				continue
			}
			crashes++
			keep := make([]int, r.Intn(15))
			for i := range keep {
				keep[i] = []int{1, 1, 1, 3, 0, 2, -2}[r.Intn(7)]
			}
			s.boot(keep...)
			s.onlyCopiesChange(before)
			s.allNamed()
		}
		for w := api.WorkCopy; w != api.WorkNone; {
			var e api.Errno
			w, e = s.step()
			ok(t, e)
		}
		for id := range s.records() {
			s.isBrought(id)
		}
	}
	if crashes < 1000 {
		t.Errorf("only %d crashes", crashes)
	}
}

// allNamed holds that each record names a right copy.
func (s *stand) allNamed() {
	s.t.Helper()
	for id, r := range s.records() {
		if !s.named(r) {
			s.t.Fatalf("%q names no right copy: %v", id, r.Copies)
		}
	}
}

// TestOldOnesDoNotPanic: an engine that the power went off for, or that is of another
// boot; what was opened behind it does not mind.
func TestOldOnesDoNotPanic(t *testing.T) { // R3
	for steps := range 4 {
		s := begun(t, steps, 0)
		s.p.Fuse(1)
		old := s.g
		old.Step()
		old.Step()
		s.p.Boot([]int{1})
		old.Step()
		old.Step()
		s.open()
		s.works(api.WorkCopy)
		s.stays(s.record("b").Copies[0])
	}
}

// TestAnyTapes: tapes that have any blocks.
func TestAnyTapes(t *testing.T) { // R1, R4
	r := rand.New(rand.NewSource(3))
	for range 100 {
		s := made(t, 2, 40, 40, 40)
		for dev := 3; dev < 6; dev++ {
			for range r.Intn(20) {
				_, e := s.p.Append(dev, someBytes(r, 64))
				ok(t, e)
			}
		}
		s.put("a", ones(60))
		s.works(append(toTwo, api.WorkNone)...)
	}
}
