package archive

import (
	"math/rand"
	"testing"

	"muniment/api"
	"muniment/plant"
)

// formatsCutOff cuts a Format off at each step, with each part kept: behind it there is no
// archive, or the empty one, or wholly the one that was there, which stays so; and Format
// again makes an empty one. It tells how often there was which.
func formatsCutOff(t *testing.T, base *plant.Plant, was *plain) (none, empty, old int) {
	t.Helper()
	for fuse := 0; ; fuse++ {
		crashed := base.Clone()
		crashed.Fuse(fuse)
		if e := Format(crashed, api.Config{Replicas: 3}); e == api.OK {
			return none, empty, old
		} else if e != api.ErrPower {
			t.Fatalf("cut off at %d: %d", fuse, e)
		}
		for i, keep := range keeps(fuse) {
			s := &stand{t: t, p: crashed.Clone(), m: newPlain()}
			s.p.Boot(keep)
			a, e := Open(s.p)
			switch {
			case e == api.ErrCorrupt:
				none++
				opensCutOffOrNot(t, s.p, fuse)
				opensNot(t, s.p, api.ErrCorrupt)
			case e != api.OK:
				t.Fatalf("cut off at %d: Open: %d", fuse, e)
			case was != nil && differs(a, s.p, was.known()) == "":
				old++
				s.m = was.clone()
				s.stays(s.m.known(), fuse+i)
			default:
				empty++
				s.a = a
				s.same()
				s.stays(s.m.known(), fuse+i)
			}
			ok(t, Format(s.p, api.Config{Replicas: 3}))
			s.m = newPlain()
			s.open()
			s.same()
			s.does(put("a", "anew"))
			s.migrates()
			s.copiesAre("a", 3)
		}
	}
}

// opensCutOffOrNot is an Open where there is no archive, and the power may go off.
func opensCutOffOrNot(t *testing.T, p *plant.Plant, fuse int) {
	t.Helper()
	p.Fuse(fuse % 3)
	if a, e := Open(p); a != nil || e != api.ErrCorrupt && e != api.ErrPower {
		t.Fatalf("Open: %v, %d", a, e)
	}
	p.Boot(nil)
}

func TestFormatCutOff(t *testing.T) { // P21.1
	t.Parallel()
	p, e := plant.New(wide)
	ok(t, e)
	none, empty, old := formatsCutOff(t, p, nil)
	if none == 0 || empty == 0 || old > 0 {
		t.Errorf("on new disks: none %d times, an empty one %d times, an old one %d times", none, empty, old)
	}
}

// TestFormatCutOffOverAnother: nothing of the archive that was there comes into another one.
func TestFormatCutOffOverAnother(t *testing.T) { // P21.1
	t.Parallel()
	for _, make := range []func(*testing.T) *stand{several, begun, waiting} {
		s := make(t)
		was := s.m.reopened()
		s.p.Boot(nil)
		if none, empty, old := formatsCutOff(t, s.p, was); none == 0 || empty == 0 || old == 0 {
			t.Errorf("none %d times, an empty one %d times, the old one %d times", none, empty, old)
		}
	}
}

// TestOpenCutOff: an Open that is cut off changes nothing, wherever that is, and however
// often.
func TestOpenCutOff(t *testing.T) { // P21.1, P21.10, T2
	for _, make := range []func(*testing.T) *stand{several, begun, waiting, copied, rotten} {
		s := make(t)
		all := s.m.reopened().known()
		before := s.p.Steps()
		s.open()
		n := s.p.Steps() - before
		if n < 1 {
			t.Fatal("Open takes no step")
		}
		for fuse := range n {
			p := s.p.Clone()
			for i, keep := range keeps(fuse) {
				p.Fuse(fuse)
				if a, e := Open(p); a != nil || e != api.ErrPower {
					t.Fatalf("cut off at %d: %v, %d", fuse, a, e)
				}
				p.Boot(keep)
				if i%3 == 0 {
					if x := differs(opens(t, p), p, all); x != "" {
						t.Fatalf("cut off at %d, keep %v: %s", fuse, keep, x)
					}
				}
			}
			if x := differs(opens(t, p), p, all); x != "" {
				t.Fatalf("cut off at %d: %s", fuse, x)
			}
		}
	}
}

// TestAnyCrashes: rows of any calls and steps, where the power goes off at any time, and
// any part is kept. What was answered is so; the call at hand was done wholly, or not at
// all; and while the power is off nothing is answered.
func TestAnyCrashes(t *testing.T) { // P21.2 to P21.10, T1, T2, T4, T6
	t.Parallel()
	var found [2]int
	for seed := range int64(150) {
		r := rand.New(rand.NewSource(seed))
		s := formatted(t, wide, 1+int(seed)%3)
		for range 120 {
			if r.Intn(2) == 0 {
				s.p.Fuse(r.Intn(12))
			}
			if r.Intn(3) == 0 {
				s.steps(r)
			} else if n := s.mayFail(someOp(r, s.m), r); n >= 0 {
				found[n]++
			}
			s.p.Fuse(-1)
		}
		s.same()
		s.proofsHold()
	}
	if found[0] < 100 || found[1] < 20 {
		t.Errorf("calls at hand: not done %d times, done %d times", found[0], found[1])
	}
}

// steps does a piece of work, at which the power may go off.
func (s *stand) steps(r *rand.Rand) {
	s.t.Helper()
	if _, e := s.a.Step(r.Intn(4)); e == api.OK {
		return
	} else if e != api.ErrPower {
		s.t.Fatal(e)
	}
	s.crash(r)
	s.same()
}

// mayFail does a call at which the power may go off. It tells whether it was not done (0),
// or done (1) then; else a number below 0.
func (s *stand) mayFail(o op, r *rand.Rand) int {
	s.t.Helper()
	before := s.m.clone()
	got, e := o.at(s.a, s.p)
	want, wanted := o.of(s.m)
	if e != api.ErrPower {
		if e != wanted || got != want {
			s.t.Fatalf("%+v: %s, %d; want %s, %d", o, got, e, want, wanted)
		}
		return -1
	}
	if wanted != api.OK || !o.isChange() || got != o.none() {
		s.t.Fatalf("%+v answers %s, %d", o, got, e)
	}
	after := s.m
	s.m = before
	s.crash(r)
	if differs(s.a, s.p, s.m.known()) == "" {
		return 0
	}
	s.m = after.reopened()
	s.same()
	return 1
}

// crash is what comes behind a call at which the power went off.
func (s *stand) crash(r *rand.Rand) {
	s.t.Helper()
	for _, o := range []op{head(), get("a"), put("never", ""), del("A")} {
		if got, e := o.at(s.a, s.p); got != o.none() || e != api.ErrPower {
			s.t.Fatalf("%+v without power: %s, %d", o, got, e)
		}
	}
	keep := someKeep(r)
	if r.Intn(2) == 0 {
		keep = []int{1}
	}
	s.p.Boot(keep)
	opensCutOff(s.t, s.p, r.Intn(9))
	s.open()
}
