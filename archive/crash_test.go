package archive

import (
	"fmt"
	"math/rand"
	"slices"
	"testing"

	"muniment/api"
	"muniment/plant"
)

// keeps are lists for Boot: nothing, all, a beginning, all but one, torn blocks, and any
// others. Where a list is shorter than what waits, it is gone through again.
func keeps(seed int) [][]int {
	l := [][]int{nil, {1}, {1, 0}, {0, 1}, {1, 1, 0}, {0, 0, 1}, {1, 2}, {2}}
	r := rand.New(rand.NewSource(int64(seed)))
	n := 1 + r.Intn(14)
	beginning := append(slices.Repeat([]int{1}, n), slices.Repeat([]int{0}, 20)...)
	torn := slices.Clone(beginning)
	torn[n] = 2
	lost := slices.Repeat([]int{1}, 20)
	lost[r.Intn(14)] = 0
	return append(l, beginning, torn, lost, someKeep(r), someKeep(r), append(someKeep(r), 1, 0, 1, 1, 2, 1, 0))
}

// cut is a call, or a step, that is cut off.
type cut struct {
	name string
	make func(t *testing.T) *stand // what is there ahead of it
	do   func(s *stand) api.Errno
	of   func(m *plain) // what a call does that was not cut off
}

func cutCall(name string, make func(t *testing.T) *stand, o op) cut {
	return cut{
		name: fmt.Sprintf("%s, %s %s", name, o.call, o.id),
		make: make,
		do: func(s *stand) api.Errno {
			got, e := o.at(s.a, s.p)
			if e != api.OK && got != o.none() {
				s.t.Fatalf("%+v: %s beside an error", o, got)
			}
			return e
		},
		of: func(m *plain) { o.of(m) },
	}
}

// cutStep is a step that does a piece of work, which is seen by no call.
func cutStep(name string, make func(t *testing.T) *stand, pick int, want api.Work) cut {
	return cut{
		name: fmt.Sprintf("%s, step %d", name, pick),
		make: make,
		do: func(s *stand) api.Errno {
			w, e := s.a.Step(pick)
			if e == api.OK && w != want || e != api.OK && w != 0 {
				s.t.Fatalf("step %d did %d, %d; want %d", pick, w, e, want)
			}
			return e
		},
		of: func(*plain) {},
	}
}

// steps is how many of the plant it takes, if it is not cut off.
func (c cut) steps(t *testing.T) int {
	t.Helper()
	s := c.make(t)
	before := s.p.Steps()
	ok(t, c.do(s))
	c.of(s.m)
	s.same()
	return s.p.Steps() - before
}

// fate is what an archive may be behind a crash.
type fate struct {
	m   *plain
	all []known
}

func fateOf(m *plain) fate { return fate{m.reopened(), m.known()} }

// run cuts it off at each of its steps (or at some, where there are many), with each part
// kept. It tells how often it was found not done, and how often done.
func (c cut) run(t *testing.T) (found [2]int) {
	t.Helper()
	base := c.make(t)
	fates := []fate{fateOf(base.m)}
	c.of(base.m)
	fates = append(fates, fateOf(base.m))
	for _, fuse := range some(c.steps(t)) {
		s := c.make(t)
		s.p.Fuse(fuse)
		if e := c.do(s); e != api.ErrPower || s.p.On() {
			t.Fatalf("%s: cut off at %d it answers %d", c.name, fuse, e)
		}
		for i, keep := range keeps(fuse) {
			p := s.p.Clone()
			p.Boot(keep)
			x := &stand{t: t, p: p, a: opens(t, p)}
			was := slices.IndexFunc(fates, func(f fate) bool { return differs(x.a, p, f.all) == "" })
			if was < 0 {
				t.Fatalf("%s: cut off at %d, keep %v: it is neither done nor not: %s",
					c.name, fuse, keep, differs(x.a, p, fates[0].all))
			}
			found[was]++
			x.m = fates[was].m.clone()
			x.stays(fates[was].all, fuse+i)
		}
	}
	return found
}

// stays holds that what was found behind a crash stays so: opened again, with an Open that
// is cut off ahead of that, and behind other calls and all kinds of work.
func (s *stand) stays(all []known, i int) {
	s.t.Helper()
	opensCutOff(s.t, s.p, i)
	s.open()
	if x := differs(s.a, s.p, all); x != "" {
		s.t.Fatalf("opened again it is not the same: %s", x)
	}
	if i%6 > 0 {
		return
	}
	for k := range 12 {
		s.step((k + i) % 3)
	}
	s.does(put("another", ones(30)), lock("another", 3), lock("k", 70), del("a"), get("another"))
	s.same()
	s.open()
	s.same()
	s.proofsHold()
}

// opensCutOff cuts off some Opens, one behind the other, and keeps a part of each.
func opensCutOff(t *testing.T, p *plant.Plant, i int) {
	t.Helper()
	for fuse := range i % 3 {
		p.Fuse(fuse)
		if a, e := Open(p); a != nil || e != api.ErrPower {
			t.Fatalf("Open, cut off at %d: %v, %d", fuse, a, e)
		}
		p.Boot(keeps(i)[(i+fuse)%8])
	}
}

// some are the numbers from 0 on, all of them, or a part where there are many.
func some(n int) []int {
	var l []int
	for i := range n {
		if n <= 40 || i < 20 || i >= n-20 || i%13 == 0 {
			l = append(l, i)
		}
	}
	return l
}

// changes are calls that change something, of what several has.
var changes = []op{
	put("new", ones(100)), put("new", ""), put("new", ones(512)), seal(0, "new"), seal(2, "new"),
	lock("a", 5), lock("k", 60), lock("h", 1<<40), hold("a", true), hold("h", false), del("a"), del("d"),
}

// begun has more than several: d was locked and is due, a waits for its second copy, c is
// cold.
func begun(t *testing.T) *stand {
	t.Helper()
	s := several(t)
	s.does(put("c", ones(60)))
	s.migrates()
	s.does(put("d", ones(64)), lock("d", 4))
	s.works(migration, api.WorkCopy)
	return s
}

// waiting has a checkpoint behind it, and an object that waits for its first copy.
func waiting(t *testing.T) *stand {
	t.Helper()
	s := several(t)
	s.does(put("d", ones(64)), lock("d", 4))
	s.works(checkpoint, api.WorkCheckpoint)
	return s
}

// full is begun with a journal that has no room for what is to be cut off, so that it takes
// a checkpoint: that is seen by how many steps it takes.
func full(t *testing.T, c cut) cut {
	t.Helper()
	make, most, at := c.make, 0, 0
	for n := range 24 {
		c.make = func(t *testing.T) *stand { return filled(t, make, n) }
		if steps := c.steps(t); steps > most {
			most, at = steps, n
		}
	}
	if most < 30 {
		t.Fatalf("%s: no checkpoint in %d steps", c.name, most)
	}
	c.make = func(t *testing.T) *stand { return filled(t, make, at) }
	c.name += ", with a checkpoint"
	return c
}

// filled has so many more changes in its journal, which change nothing.
func filled(t *testing.T, make func(t *testing.T) *stand, n int) *stand {
	t.Helper()
	s := make(t)
	for range n {
		s.does(lock("k", 1))
	}
	return s
}

// TestCutOff: each call that changes something, cut off at each step.
func TestCutOff(t *testing.T) { // P21.2, P21.4, P21.6, P21.10, T2
	t.Parallel()
	makers := map[string]func(*testing.T) *stand{"begun": begun, "waiting": waiting}
	for name, make := range makers {
		for _, o := range changes {
			t.Run(name+" "+o.call+" "+o.id, func(t *testing.T) {
				t.Parallel()
				c := cutCall(name, make, o)
				bothFates(t, c, c.run(t))
			})
		}
	}
}

// TestCutOffInACheckpoint: the same, where the journal is full.
func TestCutOffInACheckpoint(t *testing.T) { // P21.7, P21.10, T2
	t.Parallel()
	for _, o := range []op{put("new", ones(100)), lock("a", 5), del("d")} {
		t.Run(o.call+" "+o.id, func(t *testing.T) {
			t.Parallel()
			c := full(t, cutCall("begun", begun, o))
			bothFates(t, c, c.run(t))
		})
	}
	t.Run("switch", func(t *testing.T) {
		t.Parallel()
		full(t, cutStep("copied", copied, migration, api.WorkSwitch)).run(t)
	})
}

func bothFates(t *testing.T, c cut, found [2]int) {
	t.Helper()
	if found[0] == 0 || found[1] == 0 {
		t.Errorf("%s: not done %d times, done %d times", c.name, found[0], found[1])
	}
}

// copied has an object with all its copies written, and none named.
func copied(t *testing.T) *stand {
	t.Helper()
	s := begun(t)
	s.works(migration, api.WorkCopy)
	return s
}

// rotten has an object of which one copy of two is not right, and another one on the hot
// disk alone.
func rotten(t *testing.T) *stand {
	t.Helper()
	s := begun(t)
	for _, r := range s.a.records() {
		if r.ID == "c" {
			s.rots(r.Copies[0].Dev, r.Copies[0].At, 3)
		}
	}
	s.copiesAre("c", 1)
	s.works(scrubbing, api.WorkScrub)
	return s
}

// TestStepCutOff: each kind of step, cut off at each step of the plant.
func TestStepCutOff(t *testing.T) { // P21.7, P21.9, P21.10, T2
	t.Parallel()
	for _, c := range []cut{
		cutStep("waiting", waiting, migration, api.WorkCopy),
		cutStep("begun", begun, migration, api.WorkCopy),
		cutStep("copied", copied, migration, api.WorkSwitch),
		cutStep("rotten", rotten, scrubbing, api.WorkMend),
		cutStep("begun", begun, checkpoint, api.WorkCheckpoint),
		cutStep("waiting", waiting, checkpoint, api.WorkCheckpoint),
	} {
		t.Run(c.name, func(t *testing.T) {
			t.Parallel()
			if n := c.steps(t); n < 2 {
				t.Fatalf("%s: %d steps", c.name, n)
			}
			c.run(t)
		})
	}
}

// TestMigratedBehindCrashes: where steps are cut off at any time, enough of them bring all
// objects to tapes nevertheless.
func TestMigratedBehindCrashes(t *testing.T) { // P21.9, P21.10
	for fuse := range 30 {
		s := begun(t)
		for range 6 {
			s.p.Fuse(fuse)
			for s.p.On() {
				if w, e := s.a.Step(migration); e == api.OK && w == api.WorkNone {
					break
				}
			}
			s.boot(keeps(fuse)[fuse%14]...)
			s.same()
		}
		s.migrates()
		s.hotSectorsAre(0)
		for _, id := range s.m.ids() {
			s.copiesAre(id, 2)
		}
		s.same()
	}
}
