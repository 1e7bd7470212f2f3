package scrub

import (
	"maps"
	"math/rand"
	"slices"
	"testing"

	"muniment/api"
)

// keeps are lists for n writes that wait: all of them, if these are not too many, else
// those that keep a beginning, or lose one, and any others.
func keeps(n int) [][]int {
	var all [][]int
	if n <= 4 {
		all = [][]int{{}}
		for range n {
			var longer [][]int
			for _, l := range all {
				for k := range 3 {
					longer = append(longer, append(slices.Clone(l), k))
				}
			}
			all = longer
		}
		return all
	}
	r := rand.New(rand.NewSource(int64(n)))
	for i := range n + 1 {
		kept := append(slices.Repeat([]int{1}, i), slices.Repeat([]int{0}, n-i)...)
		lost, torn := slices.Repeat([]int{1}, n), slices.Clone(kept)
		if i < n {
			lost[i], torn[i] = 0, 2
		}
		some := make([]int, n)
		for i := range some {
			some[i] = []int{1, 1, 1, 0, 2, -1, -2}[r.Intn(7)]
		}
		all = append(all, kept, lost, torn, some)
	}
	return all
}

// The kinds of steps that are cut off.
const (
	badAndCopy = iota // a place is named Bad, and a copy is written
	badAlone          // a place is named Bad
	copyAlone         // a copy is written
	oneGoes           // a place is forgotten, as there are as many as may be
	kindsOfSteps
)

// begun has objects of all kinds, the ledger's entries and locks, and is ahead of a step
// that mends the object m. Before that the journal was written to so many times.
func begun(t *testing.T, kind, full int) *stand {
	t.Helper()
	s := made(t, 2, 60, 60, 60)
	b := ones(60)
	hot := asBad(s.hot(b))
	r := recordWith("m", b, hot, s.cold(1, "m", b), bad(5, 50, 4))
	r.Index, r.Expiry, r.Hold = 5, 99, true
	switch kind {
	case badAndCopy, badAlone:
		x := s.cold(2, "m", b)
		s.turn(x)
		r.Copies = append(r.Copies, x)
		if kind == badAlone {
			r.Copies = append(r.Copies, s.cold(0, "m", b))
		}
	case oneGoes:
		r.Copies = append(r.Copies, bad(3, 9, 9), bad(4, 9, 9), r.Copies[1], bad(3, 1, 1), place(0, 1, 1))
	}
	s.set(r)
	s.set(recordWith("n", b, s.hot(b), bad(3, 0, 4)))
	s.put("o", ones(3), 0, 2)
	s.set(recordWith("p", b, bad(3, 0, 4), bad(4, 0, 4)))
	gone := recordWith("q", ones(5))
	gone.Gone = true
	s.set(gone)
	s.lay("c", []byte{2})
	s.lay("l\x00\x00\x00\x00", []byte("an entry"))
	s.lay("l\x00\x00\x00\x01", []byte("another one"))
	s.lay("x\x00\x00\x00\x00\x00\x63m", nil)
	s.lay("om.", []byte("?"))
	ok(t, s.c.Checkpoint())
	for range full {
		s.lay("c", []byte{2})
	}
	for k := range s.tapes {
		s.waits(k)
	}
	return s
}

// waits writes something to a tape that is not flushed.
func (s *stand) waits(tape int) {
	s.t.Helper()
	_, e := s.tapes[tape].Append("w", nil)
	ok(s.t, e)
}

// bytesOf are those of an object, as its record names them.
func (s *stand) bytesOf(r api.Record) (string, bool) {
	for _, x := range r.Copies {
		if x.Bad || !s.rightAt(r, x) {
			continue
		}
		if x.Dev == hotDisk {
			b, _ := s.h.Read(x)
			return string(b), true
		}
		_, b, _ := s.tapes[x.Dev-api.DevTape].Read(x)
		return string(b), true
	}
	return "", false
}

// objects are the bytes of all objects that have any.
func (s *stand) objects() map[string]string {
	s.t.Helper()
	m := map[string]string{}
	for id, r := range s.records() {
		if b, is := s.bytesOf(r); is {
			m[id] = b
		}
	}
	return m
}

// asBefore holds that behind a crash all is as it was, but for one record's Copies, which
// may be those that the step makes them, and must be if it was done.
func (s *stand) asBefore(pairs, objects map[string]string, mended []api.Place, done bool) {
	s.t.Helper()
	s.open()
	first := s.pairs()
	turned := s.onlyCopiesChange(pairs)
	s.open()
	if !maps.Equal(s.pairs(), first) {
		s.t.Fatal("opened twice it is not the same")
	}
	if turned != "" && turned != "m" || done && turned == "" {
		s.t.Fatalf("%q was changed", turned)
	}
	if turned == "m" {
		s.copiesAre("m", mended...)
	}
	if !maps.Equal(s.objects(), objects) {
		s.t.Fatalf("the objects are %v; want %v", s.objects(), objects)
	}
}

// goesOn holds that a new scrubber mends all that can be.
func (s *stand) goesOn() {
	s.t.Helper()
	objects := s.objects()
	for range 2 {
		s.pass()
	}
	if n := s.pass(); n != 0 {
		s.t.Fatalf("%d were mended where nothing is wrong", n)
	}
	s.rightAre("m", 2)
	s.rightAre("o", 2)
	if !maps.Equal(s.objects(), objects) {
		s.t.Fatal("the objects are others")
	}
}

// cutOff does the step at each fuse, till it is not cut off any more, and crashes with
// each part kept. It tells how often it was cut off.
func cutOff(t *testing.T, kind, full int) int {
	t.Helper()
	whole := begun(t, kind, full)
	whole.works(api.WorkMend)
	mended := whole.record("m").Copies
	for fuse := 0; ; fuse++ {
		e := api.OK
		for _, keep := range keeps(3 + min(fuse, 5)) {
			s := begun(t, kind, full)
			pairs, objects := s.pairs(), s.objects()
			s.p.Fuse(fuse)
			_, e = s.step()
			s.p.Boot(keep)
			s.asBefore(pairs, objects, mended, e == api.OK)
			s.goesOn()
		}
		if e != api.ErrPower {
			return fuse
		}
	}
}

// TestCutOff: each kind of step, cut off at each step of the plant.
func TestCutOff(t *testing.T) { // P17.6
	want := [kindsOfSteps]int{4 + 1 + 2, 2, 4 + 1 + 2, 4 + 1 + 2} // blocks, a flush, and what Apply does at the least
	for kind := range kindsOfSteps {
		if fuse := cutOff(t, kind, 0); fuse < want[kind] {
			t.Errorf("kind %d: cut off %d times", kind, fuse)
		}
	}
}

// TestCutOffInACheckpoint: the record is applied to a catalogue whose journal is full.
func TestCutOffInACheckpoint(t *testing.T) { // P17.6
	most, full := 0, 0
	for n := range 70 {
		s := begun(t, copyAlone, n)
		before := s.p.Steps()
		s.works(api.WorkMend)
		if done := s.p.Steps() - before; done > most {
			most, full = done, n
		}
	}
	if fuse := cutOff(t, copyAlone, full); fuse != most || most < 5+10 {
		t.Errorf("cut off %d times: there was no checkpoint", fuse)
	}
}

// TestLostRoom: what was written and is not named is lost room, no more; the pass begins
// anew.
func TestLostRoom(t *testing.T) { // P17.6
	s := made(t, 2, 60, 60)
	s.put("a", ones(5), 0, 1)
	s.put("b", ones(5), 0)
	s.works(api.WorkScrub)
	s.p.Fuse(4) // behind three blocks and their flush
	s.fails(api.ErrPower)
	s.boot(1)
	s.lengthsAre(6, 6)
	s.copiesAre("b", place(3, 3, 3))
	s.works(api.WorkScrub, api.WorkMend, api.WorkPass)
	s.copiesAre("b", place(3, 3, 3), place(4, 6, 3))
	s.turn(place(4, 6, 3))
	s.works(api.WorkScrub)
	s.p.Fuse(2)
	s.fails(api.ErrPower)
	s.boot(1, 2) // a block, and a torn one
	s.lengthsAre(6, 11)
	s.copiesAre("b", place(3, 3, 3), place(4, 6, 3))
	s.works(api.WorkScrub, api.WorkMend, api.WorkPass)
	s.copiesAre("b", place(3, 3, 3), bad(4, 6, 3), place(4, 11, 3))
}

// someID is one of a few.
func someID(r *rand.Rand) string {
	return []string{"a", "b", "c", "c-", "ca", "d0", "z.z", "zzzzzzzzzzzzzzzz"}[r.Intn(8)]
}

// spare turns bytes of an object's copies, of all but one that is right.
func (s *stand) spare(r *rand.Rand, id string) {
	s.t.Helper()
	o := s.record(id)
	var right []api.Place
	for _, x := range o.Copies {
		if !x.Bad && s.rightAt(o, x) {
			right = append(right, x)
		}
	}
	if len(right) == 0 {
		return
	}
	i := r.Intn(len(right))
	for _, x := range slices.Delete(right, i, i+1) {
		for range r.Intn(3) {
			s.p.Rot(x.Dev, x.At+r.Intn(x.Len), r.Intn(64), 1+r.Intn(255))
		}
	}
}

// TestAnyCrashes: copies rot, all but one of each object, and are mended, while the power
// goes off at any time, and any part is kept.
func TestAnyCrashes(t *testing.T) { // P17.5, P17.6
	crashes := 0
	for seed := range int64(100) {
		r := rand.New(rand.NewSource(seed))
		n := 1 + r.Intn(3)
		s := made(t, n, 3000, 3000, 3000)
		objects := map[string]string{}
		for range 60 {
			id := someID(r)
			if _, is := objects[id]; !is {
				b := someBytes(r, r.Intn(300))
				s.put(id, b, r.Perm(3)[:1+r.Intn(3)]...)
				objects[id] = string(b)
			}
			s.spare(r, slices.Sorted(maps.Keys(objects))[r.Intn(len(objects))])
			if r.Intn(3) == 0 {
				s.p.Fuse(r.Intn(12))
			}
			before := s.pairs()
			if _, e := s.step(); e != api.OK && e != api.ErrPower {
				t.Fatal(e)
			}
			if s.p.On() {
				s.p.Fuse(-1)
				continue
			}
			crashes++
			keep := make([]int, r.Intn(15))
			for i := range keep {
				keep[i] = []int{1, 1, 1, 3, 0, 2, -2}[r.Intn(7)]
			}
			s.boot(keep...)
			s.onlyCopiesChange(before)
			if !maps.Equal(s.objects(), objects) {
				t.Fatal("an object is not as it was")
			}
		}
		s.again()
		s.holdsPasses(n)
		if !maps.Equal(s.objects(), objects) {
			t.Fatal("an object is not as it was")
		}
	}
	if crashes < 500 {
		t.Errorf("only %d crashes", crashes)
	}
}

// holdsPasses does as many passes as there are to be copies, and holds that there are then
// so many right ones of each object, and that nothing is done any more.
func (s *stand) holdsPasses(n int) {
	s.t.Helper()
	for range n {
		s.pass()
	}
	for id, r := range s.records() {
		if got := s.s.Right(r); got < n {
			s.t.Fatalf("%q has %d right copies on tape; want %d: %v", id, got, n, r.Copies)
		}
	}
	s.nothingChanges(func() { s.pass() })
}

// TestOldOnesDoNotPanic: a scrubber that the power went off for, or that is of another
// boot; what was opened behind it does not mind.
func TestOldOnesDoNotPanic(t *testing.T) { // R3
	for fuse := range 10 {
		s := begun(t, badAndCopy, 0)
		r := s.record("m")
		s.p.Fuse(fuse)
		old := s.s
		old.Step()
		old.Step()
		old.Right(r)
		s.p.Boot([]int{1})
		old.Step()
		old.Right(r)
		s.open()
		s.pass()
		s.rightAre("m", 2)
	}
}

// TestAnyTapes: tapes that have any blocks.
func TestAnyTapes(t *testing.T) { // R1, R4
	r := rand.New(rand.NewSource(3))
	for range 100 {
		s := made(t, 3, 40, 40, 40)
		for dev := 3; dev < 6; dev++ {
			for range r.Intn(20) {
				_, e := s.p.Append(dev, someBytes(r, 64))
				ok(t, e)
			}
		}
		s.put("a", ones(60), r.Intn(3))
		s.works(api.WorkMend, api.WorkPass, api.WorkMend, api.WorkPass, api.WorkScrub)
		s.rightAre("a", 3)
	}
}
