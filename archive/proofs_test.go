package archive

import (
	"fmt"
	"math/rand"
	"testing"

	"muniment/api"
	"muniment/verify"
)

// TestProofs: the heads that were told stay those of the ledger's beginnings, and all
// proofs between them hold, whatever came, was deleted, brought to tapes, or cut off.
func TestProofs(t *testing.T) { // P21.8, T6
	t.Parallel()
	for seed := range int64(4) {
		r := rand.New(rand.NewSource(seed))
		s := formatted(t, wide, 1)
		empty, e := s.a.Head()
		ok(t, e)
		heads := []api.Head{empty}
		for n := 0; len(s.m.order) < 24; n++ {
			s.p.Fuse(r.Intn(40))
			s.mayFail(put(fmt.Sprint("n", n), someBytes(r, r.Intn(100))), r)
			s.p.Fuse(-1)
			if h, e := s.a.Head(); h.Size == len(heads) {
				ok(t, e)
				heads = append(heads, h)
			}
			s.does(head(), del(oldID(r, s.m)))
			s.someWork(r)
			if r.Intn(4) == 0 {
				s.open()
			}
			s.headsHold(heads)
		}
		s.proofsHold()
	}
}

// headsHold holds that the last head is proved to go on from each of those ahead of it, and
// that each object is in each of those behind its own.
func (s *stand) headsHold(heads []api.Head) {
	s.t.Helper()
	last := heads[len(heads)-1]
	if h, e := s.a.Head(); h != last || e != api.OK || h.Size != len(s.m.order) {
		s.t.Fatalf("the head is %v, %d; want %v", h, e, last)
	}
	for m, h := range heads {
		proof, e := s.a.Consistency(m, last.Size)
		if e != api.OK || h.Size != m || !verify.Consistency(m, last.Size, h.Root, last.Root, proof) {
			s.t.Fatalf("from %d to %d: %d", m, last.Size, e)
		}
	}
	for i, id := range s.m.order {
		b, e := s.a.Entry(i)
		ok(s.t, e)
		at, proof, e := s.a.Inclusion(id, last.Size)
		if at != i || e != api.OK || !verify.Inclusion(leafOf(string(b)), i, last.Size, proof, last.Root) {
			s.t.Fatalf("%q of %d: number %d, %d", id, last.Size, at, e)
		}
	}
}
