package archive

import (
	"fmt"
	"math/rand"
	"testing"

	"muniment/api"
	"muniment/quota"
)

// purse is what an archive of a shape holds for certain, less what was put.
type purse struct{ puts, sectors int }

func purseOf(shape api.Shape) purse { return purse{quota.Puts(shape), quota.Sectors(shape)} }

// take takes an object out of what is left; false, if there is not so much.
func (x *purse) take(length int) bool {
	cost := quota.Cost(length)
	if x.puts < 1 || x.sectors < cost {
		return false
	}
	x.puts--
	x.sectors -= cost
	return true
}

// someRoom is a shape of any size that may be an archive's.
func someRoom(r *rand.Rand) api.Shape {
	return shapeOf([]int{64 + r.Intn(3)*50, 386 + 8*r.Intn(40)*r.Intn(9), 32 + r.Intn(200)}, 12+r.Intn(300), 12+r.Intn(300), 12+r.Intn(20))
}

// TestRoom: within what is held for certain no call finds no room, whatever was put, locked,
// deleted and brought to tapes between, and wherever the power went off.
func TestRoom(t *testing.T) { // P21.2, P21.4, P21.9, T1
	t.Parallel()
	filled := 0
	for seed := range int64(60) {
		r := rand.New(rand.NewSource(seed))
		shape := someRoom(r)
		s := formatted(t, shape, 1+r.Intn(3))
		left := purseOf(shape)
		for n := 0; n < 150; n++ {
			s.fits(r, &left, n)
			s.someWork(r)
			switch r.Intn(14) {
			case 0:
				s.boot(someKeep(r)...)
			case 1:
				s.open()
			}
		}
		if left.puts == 0 || left.sectors == 0 {
			filled++
		}
		s.same()
	}
	if filled < 20 {
		t.Errorf("only %d times all was taken that is held for certain", filled)
	}
}

// fits does a call within what is left: puts, of objects whose cost is more often the least
// or the greatest, and calls that need keys.
func (s *stand) fits(r *rand.Rand, left *purse, n int) {
	s.t.Helper()
	switch r.Intn(5) {
	case 0, 1:
		s.puts(r, left, fmt.Sprintf("n%d", n))
	case 2:
		s.does(lock(oldID(r, s.m), s.m.now+1+r.Intn(20)))
	case 3:
		s.does(hold(oldID(r, s.m), r.Intn(4) == 0))
	default:
		if r.Intn(2) == 0 {
			s.does(tick(r.Intn(9)))
		}
		s.does(del(oldID(r, s.m)))
	}
}

// puts brings an object in, now and then by a session, or with a power that goes off.
func (s *stand) puts(r *rand.Rand, left *purse, id string) {
	s.t.Helper()
	length := []int{0, 512, 64 * r.Intn(8), r.Intn(513)}[r.Intn(4)]
	before := *left
	if !left.take(length) {
		return
	}
	b := someBytes(r, length)
	switch r.Intn(6) {
	case 0:
		n, _ := s.m.clone().begin()
		s.does(begin(), add(n, b), seal(n, id))
	case 1:
		s.p.Fuse(r.Intn(16))
		if s.mayFail(put(id, b), r) == 0 {
			*left = before
		}
		s.p.Fuse(-1)
	default:
		s.does(put(id, b))
	}
}

// TestAllLocked: as many objects as are held for certain, all of them locked, locked again,
// and held.
func TestAllLocked(t *testing.T) { // P21.4, T1
	t.Parallel()
	for _, sectors := range []int{386, 402, 402 + 8*9, 802, 1602, 3074} {
		shape := shapeOf([]int{64, sectors, 4096}, 12)
		s := formatted(t, shape, 1)
		n := quota.Puts(shape)
		for i := range n {
			s.does(put(fmt.Sprint("id-", i), "x"))
		}
		for _, until := range []int{9, 8, 10, 1 << 40} {
			for i := range n {
				id := fmt.Sprint("id-", (i*7)%n)
				s.does(lock(id, until+i%2), hold(id, until > 9))
			}
			s.does(tick(1), due())
		}
		s.open()
		s.does(ids(), due(), head())
	}
}

// TestFreshAgain: where nothing is on the hot disk, an object finds room that costs no more
// than what is held for certain, whatever was there ahead of it.
func TestFreshAgain(t *testing.T) { // P21.9
	t.Parallel()
	shape := shapeOf([]int{64, 1602, 32}, 4000, 4000)
	for seed := range int64(6) {
		r := rand.New(rand.NewSource(seed))
		s := formatted(t, shape, 1+int(seed)%2)
		for i := range quota.Puts(shape) {
			id := fmt.Sprintf("n%d", i)
			s.does(put(id, someBytes(r, r.Intn(449))))
			if r.Intn(2) == 0 {
				s.does(del(id))
			}
			s.migrates()
			s.hotSectorsAre(0)
			if r.Intn(5) == 0 {
				s.open()
			}
		}
		s.same()
	}
}

// TestRefusedPutLeavesRoom: what found no room takes none: neither on the hot disk, nor of
// keys.
func TestRefusedPutLeavesRoom(t *testing.T) { // P21.2
	s := formatted(t, shapeOf([]int{64, 386, 96}, 100), 1)
	n := 0
	for s.do(put(fmt.Sprint("o", n), "")) {
		n++
	}
	if n < quota.Puts(s.p.Shape()) || n > 16 {
		t.Fatalf("%d objects found room", n)
	}
	s.hotSectorsAre(n)
	for range 40 {
		s.fails(put("more", ones(512)), api.ErrFull)
	}
	s.does(begin(), add(0, ones(512)))
	for range 40 {
		s.fails(seal(0, "more"), api.ErrFull)
	}
	// As the sectors were given back, the next places are those behind all others.
	for i, b := range []string{"", "x"} {
		if x, e := s.a.hot.Append([]byte(b)); x.At != n+i || e != api.OK {
			t.Errorf("the next place is at %d, %d; want %d", x.At, e, n+i)
		}
	}
	s.open()
	s.same()
}

// TestLockAgain: a lock that was there takes no room when it grows, nor does what needs no
// key of its own.
func TestLockAgain(t *testing.T) { // P21.4
	s := formatted(t, shapeOf([]int{64, 386, 96}, 100), 1)
	for i := 0; s.do(put(fmt.Sprint("o", i), "")); i++ {
	}
	n := 0
	for i, id := range s.m.ids() {
		if s.do(lock(id, 5+i)) {
			n++
			continue
		}
		s.fails(lock(id, 7), api.ErrFull)
		s.does(lock(id, 0))
	}
	if n == 0 || n == len(s.m.order) {
		t.Fatalf("%d of %d were locked", n, len(s.m.order))
	}
	for i, id := range s.m.ids()[:n] {
		s.does(lock(id, 100+i), hold(id, true), hold(id, false))
	}
	s.does(tick(200), due())
	for _, id := range s.m.ids() {
		s.does(del(id))
	}
	s.open()
	s.same()
}

// TestDeletedGivesRoom: a deleted object's sectors are free at once, and behind the next
// opening.
func TestDeletedGivesRoom(t *testing.T) { // P21.9
	for _, again := range []bool{false, true} {
		s := formatted(t, shapeOf([]int{64, 802, 32}, 400, 400), 2)
		for i := range 12 {
			a, b := fmt.Sprint("a", i), fmt.Sprint("b", i)
			s.does(put(a, ones(512)), put(b, ones(500)))
			s.fails(put("more", ones(500)), api.ErrFull)
			s.does(del(a))
			if again {
				s.open()
			}
			s.works(migration, api.WorkCopy)
			s.does(del(b))
			s.hotSectorsAre(0)
		}
		s.works(migration, api.WorkNone)
		s.same()
	}
}
