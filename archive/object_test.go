package archive

import (
	"math/rand"
	"slices"
	"strings"
	"testing"

	"muniment/api"
)

func someBytes(r *rand.Rand, n int) string {
	b := make([]byte, n)
	r.Read(b)
	return string(b)
}

// TestLengths: objects of all lengths, on the hot disk and on tapes.
func TestLengths(t *testing.T) { // P21.2, P21.3, P21.9
	t.Parallel()
	r := rand.New(rand.NewSource(1))
	shape := shapeOf([]int{64, 3074, 64}, 4096, 4096, 4096)
	for _, lengths := range [][]int{{0, 1, 2, 55, 56, 57}, {63, 64, 65, 111, 112, 113}, {127, 128, 129, 447, 448, 449}, {503, 504, 505, 510, 511, 512}} {
		s := formatted(t, shape, 2)
		for i, n := range lengths {
			id := string(rune('a' + i))
			s.does(put(id, someBytes(r, n)), get(id), stat(id))
			s.migrates()
			s.copiesAre(id, 2)
			s.does(get(id), stat(id))
		}
		s.open()
		s.same()
	}
	s := formatted(t, shape, 1)
	for n := 0; n <= 512; n += 3 {
		id := "n" + strings.Repeat("-", n%4) + string(rune('a'+n%26)) + string(rune('a'+n/26))
		s.does(put(id, someBytes(r, n)), get(id))
		s.migrates()
		s.does(get(id), stat(id))
	}
	s.same()
}

// TestStat: what is known of an object, as it changes.
func TestStat(t *testing.T) { // P21.2, P21.3, P21.4
	s := formatted(t, docShape, 2)
	s.does(put("b", "one"), put("a", "two!"))
	is := func(id string, want api.Stat) {
		t.Helper()
		s.does(stat(id))
		if x, e := s.a.Stat(id); x != want || e != api.OK {
			t.Errorf("%q: %v, %d; want %v", id, x, e, want)
		}
	}
	one, two := chunkRoot("one"), chunkRoot("two!")
	is("b", api.Stat{Length: 3, Root: one})
	is("a", api.Stat{Length: 4, Root: two, Index: 1})
	s.does(lock("a", 9), hold("a", true))
	is("a", api.Stat{Length: 4, Root: two, Index: 1, Expiry: 9, Hold: true})
	s.does(lock("a", 8))
	is("a", api.Stat{Length: 4, Root: two, Index: 1, Expiry: 9, Hold: true})
	s.does(hold("a", false), tick(9), del("a"))
	is("a", api.Stat{Length: 4, Root: two, Index: 1, Expiry: 9, Gone: true})
	is("b", api.Stat{Length: 3, Root: one})
	s.migrates()
	is("b", api.Stat{Length: 3, Root: one})
}

// TestLockNeverLess: a lock only grows, whatever it is asked to be.
func TestLockNeverLess(t *testing.T) { // P21.4, T4
	s := formatted(t, docShape, 2)
	s.does(put("a", ""))
	for _, until := range []int{0, 5, 4, 0, 5, 6, 1<<40 - 1, 7, 1 << 40, 1<<40 - 1, 0} {
		s.does(lock("a", until), stat("a"), due())
		s.open()
		s.does(stat("a"))
	}
	s.does(tick(1<<40 - 1))
	s.fails(del("a"), api.ErrLocked)
	s.does(tick(5), due(), del("a"), due())
}

// TestDelete: at which times, and how held.
func TestDelete(t *testing.T) { // P21.4
	for _, until := range []int{0, 1, 2, 3} {
		for now := range 5 {
			for _, on := range []bool{false, true} {
				s := formatted(t, docShape, 2)
				s.does(put("a", "x"), lock("a", until), hold("a", on), tick(now))
				want := api.OK
				if on || until > now {
					want = api.ErrLocked
				}
				if want != api.OK {
					s.fails(del("a"), want)
				} else {
					s.does(del("a"))
				}
				s.open()
				s.same()
			}
		}
	}
}

// TestIDs: rising as bytes, of those that are not deleted.
func TestIDs(t *testing.T) { // P21.5
	s := formatted(t, wide, 1)
	for _, id := range []string{"b", "a", "aa", "-", ".", "0", "9", "z", "zzzzzzzzzzzzzzzz", "a-", "a.", "a0", "b-b"} {
		s.does(put(id, id), ids())
	}
	for _, id := range []string{"aa", "-", "z"} {
		s.does(del(id), ids())
	}
	l, e := s.a.IDs()
	if want := strings.Fields(". 0 9 a a- a. a0 b b-b zzzzzzzzzzzzzzzz"); !slices.Equal(l, want) || e != api.OK {
		t.Errorf("IDs: %q, %d", l, e)
	}
}

// TestDue: by rising Expiry, then by rising id; what is held, locked, deleted or was never
// locked is not due.
func TestDue(t *testing.T) { // P21.5
	s := formatted(t, wide, 1)
	for _, id := range strings.Fields("b a aa - z never held gone later") {
		s.does(put(id, id))
	}
	s.does(lock("b", 256), lock("a", 300), lock("aa", 256), lock("-", 255), lock("z", 1), lock("held", 2), lock("gone", 1))
	s.does(hold("held", true), tick(1), due(), del("gone"), lock("later", 1000))
	for range 330 {
		s.does(tick(1), due())
	}
	l, e := s.a.Due()
	if want := strings.Fields("z - aa b a"); !slices.Equal(l, want) || e != api.OK {
		t.Errorf("Due: %q, %d", l, e)
	}
	for _, id := range l {
		s.does(del(id), due())
	}
	s.does(hold("held", false), due(), lock("held", 900), due(), tick(600), due(), tick(200), due())
	s.open()
	s.same()
}

// TestSessions: objects that come in pieces.
func TestSessions(t *testing.T) { // P21.6
	s := formatted(t, wide, 2)
	for range 8 {
		s.does(begin())
	}
	s.fails(begin(), api.ErrQuota)
	s.does(add(0, ones(512)), add(1, ones(512)), add(2, ones(500)), add(2, ""), add(2, ones(12)), add(3, ones(511)))
	s.fails(add(3, "12"), api.ErrLong)
	s.fails(add(4, "12"), api.ErrQuota)
	s.does(add(4, "1"))
	s.fails(add(5, "1"), api.ErrQuota)
	s.does(add(5, ""), seal(5, "empty"), begin(), abort(0), add(8, ones(511)), add(8, "!"))
	s.fails(add(8, "!"), api.ErrLong)
	s.does(seal(8, "full"), get("full"), get("empty"), seal(4, "one"), get("one"))
	s.fails(seal(8, "again"), api.ErrSession)
	s.open()
	s.fails(seal(1, "lost"), api.ErrSession)
	s.does(begin(), add(0, "anew"), seal(0, "anew"))
	s.same()
}

// TestSealInVain: a session that could not be sealed goes on as it was, with its number.
func TestSealInVain(t *testing.T) { // P21.6
	s := formatted(t, docShape, 2)
	s.does(put("a", "a"))
	for range 8 {
		s.does(begin())
	}
	for i := range 4 {
		s.does(add(i, ones(512)))
	}
	for range 3 {
		s.fails(seal(0, "A"), api.ErrID)
		s.fails(seal(0, "a"), api.ErrTwice)
		s.fails(seal(5, "a"), api.ErrTwice)
		s.fails(begin(), api.ErrQuota)
		s.fails(add(5, "1"), api.ErrQuota)
		s.fails(add(0, "1"), api.ErrLong)
	}
	s.does(abort(1), begin(), add(5, "fi"), add(8, ones(510)))
	s.fails(seal(8, "a"), api.ErrTwice)
	s.fails(add(5, "1"), api.ErrQuota)
	s.does(put("b", ones(512)), put("c", ones(512)), put("d", ones(512)))
	s.does(seal(0, "e"))
	s.fails(seal(2, "f"), api.ErrFull)
	s.fails(seal(2, "f"), api.ErrFull)
	s.does(add(5, "ve"), seal(5, "five"), get("five"), begin())
	s.migrates()
	s.does(seal(2, "f"), get("f"), seal(8, "g"), get("g"), begin(), add(9, ones(9)), seal(9, "h"), abort(10))
	s.open()
	s.same()
}

// TestPicks: which work a step does, by pick modulo 4.
func TestPicks(t *testing.T) { // P21.7
	const least = -1 << 63
	picks := [4][]int{
		{0, 4, 8, -4, -8, 1 << 40, least, least + 4},
		{1, 5, -3, -7, 1<<63 - 3, least + 1},
		{2, 6, -2, -6, 1<<63 - 2, least + 2},
		{3, 7, -1, -5, 1<<63 - 1, least + 3},
	}
	want := [4]api.Work{api.WorkCopy, api.WorkScrub, api.WorkCheckpoint, api.WorkNone}
	for k, l := range picks {
		for _, pick := range l {
			s := formatted(t, docShape, 2)
			s.does(put("a", "x"))
			s.works(pick, want[k])
			s.same()
		}
	}
}

// TestNothingToDo: what is told of an empty archive.
func TestNothingToDo(t *testing.T) { // P21.7
	s := formatted(t, docShape, 2)
	s.works(migration, 0, 0)
	s.works(scrubbing, api.WorkPass, api.WorkPass)
	s.works(checkpoint, api.WorkCheckpoint, api.WorkCheckpoint)
	before := s.p.Steps()
	s.works(nothing, 0, 0)
	if s.p.Steps() != before {
		t.Error("something was done")
	}
	s.same()
}

// TestDone: for work that found no room there was nothing to do; other errors are told.
func TestDone(t *testing.T) { // P21.7
	if w := done(api.WorkMend, api.ErrFull); w != api.WorkNone {
		t.Errorf("ErrFull: %d", w)
	}
	if w := done(api.WorkMend, api.OK); w != api.WorkMend {
		t.Errorf("OK: %d", w)
	}
	s := formatted(t, docShape, 2)
	for _, want := range []api.Errno{api.ErrPower, api.ErrCorrupt} {
		if e := s.a.call(func() { done(api.WorkMend, want) }); e != want {
			t.Errorf("%d was thrown; %d was answered", want, e)
		}
	}
}

// TestUnforeseen: a panic that nobody threw is an error, as no call panics.
func TestUnforeseen(t *testing.T) {
	s := formatted(t, docShape, 2)
	var none []int
	if e := s.a.call(func() { none[0]++ }); e != api.ErrCorrupt {
		t.Errorf("answers %d", e)
	}
	s.does(put("a", "x"))
}
