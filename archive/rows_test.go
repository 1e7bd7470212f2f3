package archive

import (
	"fmt"
	"math/rand"
	"testing"

	"muniment/api"
)

// someID is one of a few, and now and then no name.
func someID(r *rand.Rand) string {
	if r.Intn(40) == 0 {
		return wrongIDs[r.Intn(len(wrongIDs))]
	}
	return fmt.Sprintf("%c%.*s", 'a'+rune(r.Intn(9)), r.Intn(3), "-.")
}

// oldID is one that was given, if there is any.
func oldID(r *rand.Rand, m *plain) string {
	if len(m.order) == 0 || r.Intn(6) == 0 {
		return someID(r)
	}
	return m.order[r.Intn(len(m.order))]
}

// someLength is around a sector's edges, or any.
func someLength(r *rand.Rand) int {
	switch r.Intn(8) {
	case 0:
		return 0
	case 1:
		return 512 + r.Intn(3)/2
	case 2:
		return 64*(1+r.Intn(7)) - 1 + r.Intn(3)
	}
	return r.Intn(200)
}

// someOp is any call, often one that is not refused.
func someOp(r *rand.Rand, m *plain) op {
	size := len(m.order)
	number := someSession(r, m)
	switch r.Intn(22) {
	case 0, 1:
		return put(someID(r), someBytes(r, someLength(r)))
	case 2, 3:
		return get(oldID(r, m))
	case 4:
		return stat(oldID(r, m))
	case 5, 6:
		return lock(oldID(r, m), m.now+r.Intn(30)-10)
	case 7:
		return hold(oldID(r, m), r.Intn(3) == 0)
	case 8, 9:
		return del(oldID(r, m))
	case 10:
		return ids()
	case 11:
		return due()
	case 12:
		return begin()
	case 13, 14:
		return add(number, someBytes(r, r.Intn(1+someLength(r))))
	case 15, 16:
		return seal(number, someID(r))
	case 17:
		return []op{abort(number), begin(), begin()}[r.Intn(3)]
	case 18:
		return inclusion(oldID(r, m), r.Intn(size+3)-1)
	case 19:
		return consistency(r.Intn(size+2)-1, r.Intn(size+2))
	case 20:
		return entry(r.Intn(size+2) - 1)
	}
	return tick(r.Intn(8) - 1)
}

// someSession is one that there is, if there is any.
func someSession(r *rand.Rand, m *plain) int {
	for range 5 {
		if n := r.Intn(len(m.sessions)+2) - 1; m.has(n) {
			return n
		}
	}
	return r.Intn(len(m.sessions)+2) - 1
}

// someRow is a row of calls, as a plain archive that has room would be asked them.
func someRow(r *rand.Rand, n int) []op {
	m := newPlain()
	var l []op
	for range n {
		o := someOp(r, m)
		o.of(m)
		l = append(l, o)
	}
	return l
}

// someWork is what may be done between two calls.
func (s *stand) someWork(r *rand.Rand) {
	s.t.Helper()
	for range r.Intn(3) {
		w := s.step([]int{migration, migration, scrubbing, checkpoint, nothing}[r.Intn(5)])
		if w < 0 || w > api.WorkCheckpoint {
			s.t.Fatalf("a step did %d", w)
		}
	}
}

// TestRows: where there is room, each call answers what the plain archive does, whatever
// work is done between calls, and without any (so that both answer alike).
func TestRows(t *testing.T) { // P21.2 to P21.8, T1
	t.Parallel()
	for seed := range int64(40) {
		l := someRow(rand.New(rand.NewSource(seed)), 150)
		r := rand.New(rand.NewSource(seed))
		for kind := range 3 {
			s := formatted(t, wide, 1+int(seed)%3)
			for _, o := range l {
				switch kind {
				case 1:
					s.someWork(r)
				case 2:
					s.works(checkpoint, api.WorkCheckpoint)
				}
				s.does(o)
			}
			s.same()
			s.open()
			s.same()
		}
	}
}

// TestRowsReopened: as above, with the archive opened anew between calls, and crashes in
// which no call is at hand.
func TestRowsReopened(t *testing.T) { // P21.1, T1, T2
	t.Parallel()
	for seed := range int64(45) {
		r := rand.New(rand.NewSource(seed))
		s := formatted(t, wide, 1+int(seed)%3)
		for range 150 {
			s.someWork(r)
			s.does(someOp(r, s.m))
			switch r.Intn(12) {
			case 0:
				s.open()
			case 1:
				s.boot(someKeep(r)...)
			}
		}
		s.same()
		s.proofsHold()
	}
}

// someKeep is a list for Boot: any parts.
func someKeep(r *rand.Rand) []int {
	keep := make([]int, r.Intn(12))
	for i := range keep {
		keep[i] = []int{1, 1, 1, 3, 0, 0, 2, -2, -1}[r.Intn(9)]
	}
	return keep
}

// TestRowsWithoutRoom: where there is none, what is refused has changed nothing, and all
// else is as it is.
func TestRowsWithoutRoom(t *testing.T) { // P21.2, P21.4, T1
	t.Parallel()
	full := map[string]int{}
	for seed := range int64(45) {
		r := rand.New(rand.NewSource(seed))
		shape := shapeOf([]int{64, 386 + 8*r.Intn(6), 32 + r.Intn(40)}, 12+r.Intn(90), 12+r.Intn(90))
		s := formatted(t, shape, 1+r.Intn(2))
		for range 200 {
			s.someWork(r)
			o := someOp(r, s.m)
			if !s.do(o) {
				full[o.call]++
				s.same()
			}
			if r.Intn(20) == 0 {
				s.open()
			}
		}
		s.same()
		s.open()
		s.same()
		s.proofsHold()
	}
	for _, call := range []string{"put", "seal", "lock"} {
		if full[call] < 5 {
			t.Errorf("%s found no room %d times", call, full[call])
		}
	}
	if full["hold"]+full["delete"] > 0 {
		t.Errorf("a record that is there has no room: %v", full)
	}
}
