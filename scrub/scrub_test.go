package scrub

import (
	"fmt"
	"math"
	"slices"
	"testing"

	"muniment/api"
	"muniment/chunk"
	"muniment/coldvol"
)

// TestExample4: a byte of the first copy rots; a pass of the scrubber: that copy is bad,
// and a new one is written.
func TestExample4(t *testing.T) { // P17.2, P17.3, DOC.md's example 4
	s := made(t, 2, 100, 100)
	s.put("b", ones(100), 0, 1)
	s.rightAre("b", 2)
	s.works(api.WorkScrub, api.WorkPass)
	s.turn(place(3, 1, 1))
	s.rightAre("b", 1)
	s.works(api.WorkMend, api.WorkPass)
	s.copiesAre("b", bad(3, 0, 4), place(4, 0, 4), place(3, 4, 4))
	s.rightAre("b", 2)
	s.works(api.WorkScrub, api.WorkPass, api.WorkScrub)
	s.lengthsAre(8, 4)
}

// TestExample5: both rot: both are bad, and the record is as it was but for that.
func TestExample5(t *testing.T) { // P17.3, P17.6, DOC.md's example 5
	s := made(t, 2, 100, 100)
	s.put("b", ones(100), 0, 1)
	before := s.record("b")
	s.turn(place(3, 1, 1))
	s.turn(place(4, 2, 1))
	s.works(api.WorkMend, api.WorkPass, api.WorkScrub, api.WorkPass)
	s.copiesAre("b", bad(3, 0, 4), bad(4, 0, 4))
	s.rightAre("b", 0)
	after := s.record("b")
	after.Copies = before.Copies
	if !sameRecord(before, after) {
		t.Error("it is another record")
	}
	s.lengthsAre(4, 4)
}

// TestReplicas: below 1, 1, as many as there are tapes, more than there are. One copy is
// written at a step, on the tape of the least number that has none.
func TestReplicas(t *testing.T) { // P17.1, P17.3
	for _, n := range []int{math.MinInt, -1, 0, 1} {
		s := made(t, n, 20, 20)
		s.put("a", ones(5), 1)
		s.works(api.WorkScrub, api.WorkPass)
		s.lengthsAre(0, 3)
		s.put("b", ones(5), 0, 1)
		s.turn(place(4, 3, 3))
		s.works(api.WorkScrub, api.WorkMend, api.WorkPass, api.WorkScrub, api.WorkScrub, api.WorkPass)
		s.copiesAre("b", place(3, 0, 3), bad(4, 3, 3))
	}
	cases := []struct{ replicas, tapes int }{{2, 3}, {3, 3}, {4, 4}, {5, 3}, {9, 9}, {100, 2}, {math.MaxInt, 4}}
	for _, c := range cases {
		s := made(t, c.replicas, slices.Repeat([]int{20}, c.tapes)...)
		s.put("a", ones(5), 1)
		want := []api.Place{place(4, 0, 3)}
		for k := range c.tapes {
			if k == 1 || len(want) >= min(c.replicas, api.MaxCopies) {
				continue
			}
			s.rightAre("a", len(want))
			s.works(api.WorkMend, api.WorkPass)
			want = append(want, place(3+k, 0, 3))
			s.copiesAre("a", want...)
		}
		s.works(api.WorkScrub, api.WorkPass, api.WorkScrub, api.WorkPass)
		s.copiesAre("a", want...)
		s.rightAre("a", len(want))
	}
}

// TestNothing: no tapes, no records, neither.
func TestNothing(t *testing.T) { // P17.1, P17.2, P17.3
	for _, n := range []int{-1, 0, 1, 2} {
		made(t, n).works(api.WorkPass, api.WorkPass, api.WorkPass)
		made(t, n, 20, 20).works(api.WorkPass, api.WorkPass)
		s := made(t, n)
		b := ones(5)
		s.set(recordWith("a", b, s.hot(b)))
		s.set(recordWith("b", b))
		s.works(api.WorkScrub, api.WorkScrub, api.WorkPass)
		s.set(recordWith("a", b, place(3, 0, 3)))
		s.works(api.WorkMend, api.WorkScrub, api.WorkPass, api.WorkScrub)
		s.copiesAre("a", bad(3, 0, 3))
		s.rightAre("a", 0)
		for _, tapes := range [][]*coldvol.Volume{nil, {}} {
			z := New(s.c, s.h, tapes, n)
			if w, e := z.Step(); w != api.WorkScrub || e != api.OK {
				t.Error(w, e)
			}
		}
	}
}

// TestJustThese: a scrubber has the tapes that it was given, whatever becomes of the list;
// it begins a pass of its own, and no two know of one another.
func TestJustThese(t *testing.T) { // P17.1, R6
	s := made(t, 2, 20, 20, 20)
	s.put("a", ones(5), 1)
	s.put("b", ones(5), 1)
	l := []*coldvol.Volume{s.tapes[0], s.tapes[1], s.tapes[2]}
	given := slices.Clone(l)
	s.s = New(s.c, s.h, l[:2], 3)
	l[0] = s.tapes[2]
	s.works(api.WorkMend)
	s.copiesAre("a", place(4, 0, 3), place(3, 0, 3))
	l[0] = given[0]
	first := s.s
	s.s = New(s.c, s.h, l, 3)
	s.works(api.WorkMend)
	s.copiesAre("a", place(4, 0, 3), place(3, 0, 3), place(5, 0, 3))
	if !slices.Equal(l, given) {
		t.Error("the list was changed")
	}
	s.s, s.tapes = first, given[:2] // it is behind a, and knows of two tapes alone
	s.works(api.WorkMend, api.WorkPass, api.WorkMend)
	s.copiesAre("b", place(4, 3, 3), place(3, 3, 3))
	s.copiesAre("a", place(4, 0, 3), place(3, 0, 3), bad(5, 0, 3))
	s.works(api.WorkScrub, api.WorkPass)
	s.lengthsAre(6, 6)
}

// kinds are places of all kinds, and whether there is a right copy of the object a.
var kinds = []struct {
	name string
	want bool
	b    []byte
	make func(s *stand) api.Place
}{
	{"right", true, ones(100), func(s *stand) api.Place { return s.cold(0, "a", ones(100)) }},
	{"empty", true, nil, func(s *stand) api.Place { return s.cold(0, "a", nil) }},
	{"longest", true, ones(512), func(s *stand) api.Place { return s.cold(0, "a", ones(512)) }},
	{"behind another", true, ones(5), func(s *stand) api.Place {
		s.cold(0, "x", ones(5))
		return s.cold(0, "a", ones(5))
	}},
	{"not flushed", true, ones(5), func(s *stand) api.Place {
		x, e := s.tapes[0].Append("a", ones(5))
		ok(s.t, e)
		return x
	}},
	{"sealed", true, ones(5), func(s *stand) api.Place {
		x := s.cold(0, "a", ones(5))
		ok(s.t, s.tapes[0].Seal())
		return x
	}},
	{"another id", false, ones(5), func(s *stand) api.Place { return s.cold(0, "b", ones(5)) }},
	{"a longer id", false, ones(5), func(s *stand) api.Place { return s.cold(0, "aa", ones(5)) }},
	{"more bytes", false, ones(5), func(s *stand) api.Place { return s.cold(0, "a", ones(6)) }},
	{"less bytes", false, ones(5), func(s *stand) api.Place { return s.cold(0, "a", ones(4)) }},
	{"no bytes", false, ones(5), func(s *stand) api.Place { return s.cold(0, "a", nil) }},
	{"other bytes", false, ones(5), func(s *stand) api.Place { return s.cold(0, "a", make([]byte, 5)) }},
	{"rotten", false, ones(5), func(s *stand) api.Place {
		x := s.cold(0, "a", ones(5))
		s.turn(x)
		return x
	}},
	{"of another tape", false, ones(5), func(s *stand) api.Place {
		x := s.cold(0, "a", ones(5))
		x.Dev++
		return x
	}},
	{"of no tape that was given", false, ones(5), func(s *stand) api.Place {
		x := s.cold(0, "a", ones(5))
		x.Dev = 11
		return x
	}},
	{"of the journal's disk", false, ones(5), func(s *stand) api.Place { return place(journal, 0, 3) }},
	{"of the catalogue's disk", false, ones(5), func(s *stand) api.Place { return place(disk, 0, 3) }},
	{"a block less", false, ones(5), func(s *stand) api.Place {
		x := s.cold(0, "a", ones(5))
		x.Len--
		return x
	}},
	{"a block more", false, ones(5), func(s *stand) api.Place {
		x := s.cold(0, "a", ones(5))
		x.Len++
		return x
	}},
	{"no block", false, ones(5), func(s *stand) api.Place { return place(3, 0, 0) }},
	{"a block behind", false, ones(5), func(s *stand) api.Place {
		x := s.cold(0, "a", ones(5))
		x.At++
		return x
	}},
	{"behind the tape's end", false, ones(5), func(s *stand) api.Place { return place(3, 4095, 255) }},
	{"an end", false, ones(5), func(s *stand) api.Place {
		ok(s.t, s.tapes[0].Seal())
		return place(3, 0, 2)
	}},
}

// TestKinds: what is right, and what is Bad from then on.
func TestKinds(t *testing.T) { // P17.2, P17.3
	for _, c := range kinds {
		t.Run(c.name, func(t *testing.T) {
			s := made(t, 1, 60, 60)
			x := c.make(s)
			r := recordWith("a", c.b, x)
			r.Index, r.Expiry, r.Hold = 3, 50, true
			s.set(r)
			if !c.want {
				s.rightAre("a", 0)
				s.works(api.WorkMend, api.WorkPass, api.WorkScrub)
				s.copiesAre("a", asBad(x))
				s.boot()
				s.copiesAre("a", asBad(x))
				s.works(api.WorkScrub)
				return
			}
			s.rightAre("a", 1)
			s.works(api.WorkScrub, api.WorkPass, api.WorkScrub)
			s.copiesAre("a", x)
			s.set(recordWith("a", c.b, asBad(x))) // called Bad it is not looked at
			s.rightAre("a", 0)
			s.works(api.WorkPass, api.WorkScrub)
			s.copiesAre("a", asBad(x))
		})
	}
}

// TestAnotherRecord: a copy that is there, and a record that says something else of it.
func TestAnotherRecord(t *testing.T) { // P17.2, P17.3
	changes := []func(r *api.Record){
		func(r *api.Record) { r.Length++ },
		func(r *api.Record) { r.Length = 0 },
		func(r *api.Record) { r.Root[0] ^= 1 },
		func(r *api.Record) { r.Root[31] ^= 128 },
		func(r *api.Record) { r.Root = chunk.Root(nil) },
	}
	for i, change := range changes {
		s := made(t, 2, 60, 60)
		b := ones(70)
		r := recordWith("a", b, s.cold(1, "a", b), s.hot(b))
		change(&r)
		s.set(r)
		if n := s.s.Right(r); n != 0 {
			t.Error(i, n)
		}
		s.works(api.WorkMend)
		s.copiesAre("a", bad(4, 0, 4), bad(hotDisk, 0, 3))
		s.lengthsAre(0, 4)
	}
}

// TestHot: while the hot disk has a right copy, no other one is wanted.
func TestHot(t *testing.T) { // P17.2, P17.3
	b := ones(100)
	cases := []struct {
		name string
		make func(s *stand) []api.Place
		work api.Work
		want []api.Place
	}{
		{"right", func(s *stand) []api.Place { return []api.Place{s.hot(b)} }, api.WorkScrub, []api.Place{place(2, 0, 3)}},
		{"other bytes", func(s *stand) []api.Place { return []api.Place{s.hot(make([]byte, 100))} },
			api.WorkMend, []api.Place{bad(2, 0, 3)}},
		{"more bytes", func(s *stand) []api.Place { return []api.Place{s.hot(ones(101))} }, api.WorkMend, []api.Place{bad(2, 0, 3)}},
		{"rotten", func(s *stand) []api.Place {
			x := s.hot(b)
			s.turn(x)
			return []api.Place{x}
		}, api.WorkMend, []api.Place{bad(2, 0, 3)}},
		{"not in use", func(s *stand) []api.Place {
			x := s.hot(b)
			ok(s.t, s.h.Free(x))
			return []api.Place{x}
		}, api.WorkMend, []api.Place{bad(2, 0, 3)}},
		{"no such place", func(s *stand) []api.Place { return []api.Place{place(2, 4095, 255)} },
			api.WorkMend, []api.Place{bad(2, 4095, 255)}},
		{"bad, and wrong", func(s *stand) []api.Place { return []api.Place{asBad(s.hot(ones(99)))} },
			api.WorkScrub, []api.Place{bad(2, 0, 3)}},
		{"bad, and right", func(s *stand) []api.Place { return []api.Place{asBad(s.hot(b))} },
			api.WorkScrub, []api.Place{bad(2, 0, 3)}},
		{"a wrong one and a right one", func(s *stand) []api.Place { return []api.Place{s.hot(ones(99)), s.hot(b)} },
			api.WorkMend, []api.Place{bad(2, 0, 3), place(2, 3, 3)}},
		{"a bad one and a right one", func(s *stand) []api.Place { return []api.Place{asBad(s.hot(ones(99))), s.hot(b)} },
			api.WorkScrub, []api.Place{bad(2, 0, 3), place(2, 3, 3)}},
		{"none", func(s *stand) []api.Place { return nil }, api.WorkScrub, nil},
	}
	for _, c := range cases {
		t.Run(c.name, func(t *testing.T) {
			// Alone it is never copied.
			s := made(t, 2, 60, 60, 60)
			s.set(recordWith("a", b, c.make(s)...))
			s.rightAre("a", 0)
			s.works(c.work, api.WorkPass, api.WorkScrub, api.WorkPass)
			s.copiesAre("a", c.want...)
			s.lengthsAre(0, 0, 0)

			// With a right one on tape there is one more, if none on the hot disk is right.
			s = made(t, 2, 60, 60, 60)
			x := s.cold(0, "a", b)
			s.set(recordWith("a", b, append([]api.Place{x}, c.make(s)...)...))
			s.rightAre("a", 1)
			if slices.ContainsFunc(c.want, func(x api.Place) bool { return !x.Bad }) {
				s.works(c.work, api.WorkPass, api.WorkScrub, api.WorkPass)
				s.copiesAre("a", append([]api.Place{x}, c.want...)...)
				s.lengthsAre(4, 0, 0)
				return
			}
			s.works(api.WorkMend, api.WorkPass, api.WorkScrub, api.WorkPass)
			s.copiesAre("a", append(append([]api.Place{x}, c.want...), place(4, 0, 4))...)
			s.lengthsAre(4, 4, 0)
		})
	}
}

// TestTwoOnOneTape: both are right, and count as one; one of them; neither.
func TestTwoOnOneTape(t *testing.T) { // P17.2, P17.3
	b := ones(5)
	s := made(t, 2, 60, 60, 60)
	x, y := s.cold(1, "a", b), s.cold(1, "a", b)
	s.set(recordWith("a", b, x, y, x))
	s.rightAre("a", 1)
	s.works(api.WorkMend, api.WorkPass, api.WorkScrub, api.WorkPass)
	s.copiesAre("a", x, y, x, place(3, 0, 3))
	s.rightAre("a", 2)

	s.turn(x)
	s.rightAre("a", 2)
	s.works(api.WorkMend, api.WorkPass, api.WorkScrub, api.WorkPass)
	s.copiesAre("a", asBad(x), y, asBad(x), place(3, 0, 3))
	s.lengthsAre(3, 6, 0)

	s.turn(y)
	s.rightAre("a", 1)
	s.works(api.WorkMend, api.WorkPass, api.WorkScrub, api.WorkPass)
	s.copiesAre("a", asBad(x), asBad(y), asBad(x), place(3, 0, 3), place(4, 6, 3))
	s.lengthsAre(3, 9, 0)

	s = made(t, 2, 60, 60)
	x, y = s.cold(0, "a", b), s.cold(0, "a", b)
	s.turn(x)
	s.turn(y)
	s.set(recordWith("a", b, x, y))
	s.rightAre("a", 0)
	s.works(api.WorkMend, api.WorkPass, api.WorkScrub)
	s.lengthsAre(6, 0)
}

// TestBadOnTheTape: a tape that has a Bad place of the object takes another copy; the Bad
// place stays.
func TestBadOnTheTape(t *testing.T) { // P17.3
	b := ones(60)
	s := made(t, 3, 60, 60, 60)
	s.set(recordWith("a", b, bad(3, 0, 4), s.cold(1, "a", b), bad(5, 7, 7)))
	s.works(api.WorkMend, api.WorkPass)
	s.copiesAre("a", bad(3, 0, 4), place(4, 0, 4), bad(5, 7, 7), place(3, 0, 4))
	s.works(api.WorkMend, api.WorkPass, api.WorkScrub)
	s.copiesAre("a", bad(3, 0, 4), place(4, 0, 4), bad(5, 7, 7), place(3, 0, 4), place(5, 0, 4))
}

// TestRoom: a tape with just so much Room as is wanted, and with one block less.
func TestRoom(t *testing.T) { // P17.3
	for _, n := range []int{0, 1, 56, 57, 112, 511, 512} {
		want := coldvol.Blocks(n)
		for _, rest := range []int{0, 1} {
			s := made(t, 2, want+1, want+2-rest, want+2, 60)
			s.put("a", ones(n), 3)
			s.works(api.WorkMend, api.WorkPass, api.WorkScrub)
			s.copiesAre("a", place(6, 0, want), place(4+rest, 0, want))
		}
		s := made(t, 2, 60, want+1)
		s.put("a", ones(n), 0)
		s.nothingChanges(func() { s.works(api.WorkScrub, api.WorkPass, api.WorkScrub) })
		s.rightAre("a", 1)

		s = made(t, 3, 60, 60, want+1) // what is wrong is Bad also where nothing is written
		s.put("a", ones(n), 0, 1)
		s.turn(place(4, 0, want))
		s.cold(1, "x", make([]byte, 512))
		for s.tapes[1].Room() >= want {
			s.cold(1, "x", nil)
		}
		s.works(api.WorkMend, api.WorkPass, api.WorkScrub)
		s.copiesAre("a", place(3, 0, want), bad(4, 0, want))
	}
}

// TestSealed: a tape that is sealed is not written to; what it has is right.
func TestSealed(t *testing.T) { // P17.3
	s := made(t, 2, 40, 40, 40)
	s.put("a", ones(5), 1)
	ok(t, s.tapes[0].Seal())
	ok(t, s.tapes[1].Seal())
	s.works(api.WorkMend, api.WorkPass)
	s.copiesAre("a", place(4, 0, 3), place(5, 0, 3))
	ok(t, s.tapes[2].Seal())
	s.turn(place(5, 0, 3))
	s.works(api.WorkMend, api.WorkPass, api.WorkScrub, api.WorkPass)
	s.copiesAre("a", place(4, 0, 3), bad(5, 0, 3))
	s.lengthsAre(2, 5, 5)
}

// TestMaxCopies: where there are as many places as may be, the first that is Bad goes, if
// one more is wanted; else all stay.
func TestMaxCopies(t *testing.T) { // P17.3
	b := ones(5)
	s := made(t, 2, 60, 60)
	x := s.cold(0, "a", b)
	s.set(recordWith("a", b, x, x, bad(0, 1, 1), x, bad(0, 2, 1), x, x, bad(0, 3, 1)))
	s.works(api.WorkMend, api.WorkPass, api.WorkScrub, api.WorkPass)
	s.copiesAre("a", x, x, x, bad(0, 2, 1), x, x, bad(0, 3, 1), place(4, 0, 3))

	s = made(t, 2, 60, 60) // the first one was found just now
	x = s.cold(1, "a", b)
	s.set(recordWith("a", b, x, place(0, 1, 1), x, x, x, bad(0, 2, 1), x, x))
	s.works(api.WorkMend, api.WorkPass, api.WorkScrub, api.WorkPass)
	s.copiesAre("a", x, x, x, x, bad(0, 2, 1), x, x, place(3, 0, 3))

	s = made(t, 2, 60, 60) // none had been Bad
	x = s.cold(1, "a", b)
	s.set(recordWith("a", b, x, x, x, x, x, x, x, place(3, 9, 9)))
	s.works(api.WorkMend, api.WorkPass, api.WorkScrub, api.WorkPass)
	s.copiesAre("a", x, x, x, x, x, x, x, place(3, 0, 3))

	s = made(t, 2, 60, 60) // one less than may be: all stay
	x = s.cold(1, "a", b)
	s.set(recordWith("a", b, x, bad(0, 1, 1), bad(0, 2, 1), x, x, x, place(0, 3, 1)))
	s.works(api.WorkMend, api.WorkPass, api.WorkScrub, api.WorkPass)
	s.copiesAre("a", x, bad(0, 1, 1), bad(0, 2, 1), x, x, x, bad(0, 3, 1), place(3, 0, 3))
}

// TestMaxCopiesStay: as many places as may be, and no other one is wanted, or none can be.
func TestMaxCopiesStay(t *testing.T) { // P17.3
	b := ones(5)
	s := made(t, 2, 60, 60) // two right ones
	x, y := s.cold(0, "a", b), s.cold(1, "a", b)
	s.set(recordWith("a", b, bad(0, 1, 1), x, y, bad(0, 2, 1), place(0, 3, 1), place(0, 4, 1), x, x))
	s.works(api.WorkMend, api.WorkPass, api.WorkScrub, api.WorkPass)
	s.copiesAre("a", bad(0, 1, 1), x, y, bad(0, 2, 1), bad(0, 3, 1), bad(0, 4, 1), x, x)

	s = made(t, 2, 60, 3) // no tape has Room
	x = s.cold(0, "a", b)
	s.set(recordWith("a", b, bad(0, 1, 1), x, place(0, 2, 1), bad(0, 3, 1), x, x, x, x))
	s.works(api.WorkMend, api.WorkPass, api.WorkScrub, api.WorkPass)
	s.copiesAre("a", bad(0, 1, 1), x, bad(0, 2, 1), bad(0, 3, 1), x, x, x, x)

	s = made(t, 2, 60, 60) // none is right
	all := slices.Repeat([]api.Place{bad(3, 0, 3)}, 7)
	s.set(recordWith("a", b, append(all, place(4, 0, 3))...))
	s.works(api.WorkMend, api.WorkPass, api.WorkScrub, api.WorkPass)
	s.copiesAre("a", append(all, bad(4, 0, 3))...)

	s = made(t, 2, 60, 60) // none is Bad: no record could name one more, so none is written
	x = s.cold(0, "a", b)
	s.set(recordWith("a", b, slices.Repeat([]api.Place{x}, 8)...))
	s.nothingChanges(func() { s.works(api.WorkScrub, api.WorkPass, api.WorkScrub) })
}

// TestMaxCopiesAgainAndAgain: rot, pass by pass: the record comes to name as many places
// as may be, and then forgets the oldest ones.
func TestMaxCopiesAgainAndAgain(t *testing.T) { // P17.3, P17.5
	s := made(t, 2, 400, 400)
	s.put("a", ones(5), 0, 1)
	for i := range 30 {
		for _, x := range s.record("a").Copies {
			if !x.Bad {
				s.turn(x)
				break
			}
		}
		s.rightAre("a", 1)
		s.works(api.WorkMend, api.WorkPass)
		s.rightAre("a", 2)
		l := s.record("a").Copies
		if len(l) != min(3+i, 8) || l[len(l)-1].Bad || l[len(l)-2].Bad || !l[len(l)-3].Bad {
			t.Fatal(i, l)
		}
	}
}

// TestGone: what is Gone is not looked at; Right counts what it is asked.
func TestGone(t *testing.T) { // P17.2, P17.3
	s := made(t, 2, 60, 60)
	b := ones(5)
	r := recordWith("b", b, s.cold(0, "b", b), place(4, 0, 3))
	r.Gone = true
	s.set(r)
	s.nothingChanges(func() { s.works(api.WorkPass, api.WorkPass) })
	if n := s.s.Right(r); n != 1 {
		t.Error(n)
	}
	s.put("a", b, 0)
	s.put("c", b, 0)
	s.works(api.WorkMend, api.WorkMend, api.WorkPass, api.WorkScrub, api.WorkScrub, api.WorkPass)
	s.copiesAre("b", place(3, 0, 3), place(4, 0, 3))
}

// TestNoRecords: what the catalogue has beside records, at keys that look like theirs.
func TestNoRecords(t *testing.T) { // P17.4, P17.6
	s := made(t, 2, 60, 60)
	s.put("m", ones(5), 0)
	value := []byte(s.pairs()["om"])
	s.lay("oa", value) // its id says another key
	s.lay("oz", value)
	s.lay("ob", append(slices.Clone(value), 0))
	s.lay("oc", nil)
	s.lay("od", value[:len(value)-1])
	s.lay("o", value)
	s.lay("on.............too-long", value)
	s.lay("o\xff\x00", []byte{1})
	s.lay("m", value)
	s.lay("c", []byte{2})
	s.lay("pm", value)
	s.lay("l\x00\x00\x00\x00", value)
	s.lay("x\x00\x00\x00\x00\x00\x07m", nil)
	before := s.pairs()
	s.works(api.WorkMend, api.WorkPass, api.WorkScrub, api.WorkPass)
	s.copiesAre("m", place(3, 0, 3), place(4, 0, 3))
	after := s.pairs()
	for key, was := range before {
		if key != "om" && after[key] != was {
			t.Errorf("%q was changed", key)
		}
	}
	s.drop("om")
	s.works(api.WorkPass, api.WorkPass)
}

// looksAt does a step that looks at a record, which may be mended again and again: it names
// a place that is not right.
func (s *stand) looksAt(id string) {
	s.t.Helper()
	s.works(api.WorkMend)
	for now, r := range s.records() {
		if is := r.Copies[0].Bad; is != (now == id) {
			s.t.Fatalf("%q: %v; %q should have been looked at", now, is, id)
		}
	}
	s.wrong(id)
}

// wrong makes a record name a place that is not right.
func (s *stand) wrong(id string) { s.set(recordWith(id, ones(5), place(3, 9, 3))) }

// TestOrder: ids by their bytes, pass by pass.
func TestOrder(t *testing.T) { // P17.3
	s := made(t, 1, 20)
	ids := []string{"-", ".", "0", "9", "a", "a-", "a.", "a0", "aa", "aaaaaaaaaaaaaaaa", "ab", "b", "z", "zz"}
	for i := range ids {
		s.wrong(ids[(i*5+3)%len(ids)])
	}
	for range 3 {
		for _, id := range ids {
			s.looksAt(id)
		}
		s.works(api.WorkPass)
	}
}

// TestComeAndGo: records that come, and go, between two steps.
func TestComeAndGo(t *testing.T) { // P17.3
	s := made(t, 1, 20)
	s.wrong("d")
	s.wrong("m")
	s.looksAt("d")
	s.wrong("c") // behind the last one it comes with the next pass
	s.wrong("e")
	s.looksAt("e")
	s.drop("oe") // the last one need not be there
	s.wrong("d0")
	s.wrong("f")
	s.drop("om")
	s.looksAt("f")
	s.works(api.WorkPass)
	s.wrong("b")
	s.looksAt("b")
	s.wrong("a")
	for _, id := range []string{"c", "d", "d0", "f"} {
		s.looksAt(id)
	}
	s.wrong("z") // ahead of the pass's end
	s.looksAt("z")
	s.works(api.WorkPass)
	s.looksAt("a")
	for id := range s.records() {
		s.drop("o" + id)
	}
	s.works(api.WorkPass, api.WorkPass)
	s.wrong("a")
	s.looksAt("a")
	s.wrong("b")
	s.again() // a new one begins at the beginning
	s.looksAt("a")
	s.looksAt("b")
}

// TestGoneOnTheWay: one that is Gone, or can't be told any more, when it would be next.
func TestGoneOnTheWay(t *testing.T) { // P17.3, P17.4
	s := made(t, 1, 20)
	for _, id := range []string{"a", "b", "c", "d"} {
		s.wrong(id)
	}
	s.looksAt("a")
	s.lay("ob", []byte("?"))
	s.looksAt("c")
	s.wrong("b")
	s.works(api.WorkMend) // d
	s.works(api.WorkPass)
	s.wrong("d")
	r := s.record("a")
	r.Gone, r.Copies = true, nil
	s.set(r)
	s.works(api.WorkMend)
	s.copiesAre("b", bad(3, 9, 3))
}

// TestOneCopyAStep: however many are wanted, of each object one is written a pass.
func TestOneCopyAStep(t *testing.T) { // P17.3, P17.5
	s := made(t, 4, 60, 60, 60, 60)
	s.put("a", ones(5), 2)
	s.put("b", ones(5), 3)
	for i := range 3 {
		s.rightAre("a", 1+i)
		s.works(api.WorkMend)
		s.rightAre("a", 2+i)
		s.rightAre("b", 1+i)
		s.works(api.WorkMend, api.WorkPass)
		s.rightAre("b", 2+i)
	}
	s.works(api.WorkScrub, api.WorkScrub, api.WorkPass)
	s.copiesAre("a", place(5, 0, 3), place(3, 0, 3), place(4, 0, 3), place(6, 3, 3))
	s.copiesAre("b", place(6, 0, 3), place(3, 3, 3), place(4, 3, 3), place(5, 3, 3))
}

// TestTheFrontOfTapes: what a tape has already stays there, also what is no object.
func TestTheFrontOfTapes(t *testing.T) { // P17.3
	s := made(t, 3, 40, 40, 40)
	s.cold(0, "x", ones(60))
	_, e := s.p.Append(4, make([]byte, 64))
	ok(t, e)
	s.put("a", ones(5), 2)
	s.works(api.WorkMend, api.WorkPass, api.WorkMend, api.WorkPass)
	s.copiesAre("a", place(5, 0, 3), place(3, 4, 3), place(4, 1, 3))
}

// TestTheOrderOfThings: a copy is written, flushed, and read back, and the catalogue hears
// of it only then.
func TestTheOrderOfThings(t *testing.T) { // P17.3, P17.6
	s := made(t, 2, 40, 40)
	s.put("a", ones(5), 0)
	did, _ := s.spies()
	s.s.c = &told{s.s.c, did}
	s.works(api.WorkMend)
	want := []string{"list", "read a", "append a", "flush", "read a", "apply"}
	if !slices.Equal(*did, want) {
		t.Errorf("%q; want %q", *did, want)
	}
}

// told is a catalogue that tells what is asked of it.
type told struct {
	catalogue
	did *[]string
}

func (c *told) List(prefix []byte) ([]api.Pair, api.Errno) {
	*c.did = append(*c.did, "list")
	return c.catalogue.List(prefix)
}

func (c *told) Apply(l []api.Change) api.Errno {
	*c.did = append(*c.did, "apply")
	return c.catalogue.Apply(l)
}

// TestRight: records of no catalogue, with any numbers; none is changed.
func TestRight(t *testing.T) { // P17.2, R1, R6
	s := made(t, 2, 60, 60, 60)
	b := ones(70)
	x, y, z := s.cold(0, "a", b), s.cold(1, "a", b), s.cold(2, "a", b)
	other := s.cold(1, "a", b)
	hot := s.hot(b)
	rotten := s.cold(2, "a", b)
	s.turn(rotten)
	cases := []struct {
		copies []api.Place
		want   int
	}{
		{nil, 0}, {[]api.Place{}, 0}, {[]api.Place{x}, 1}, {[]api.Place{x, y, z}, 3}, {[]api.Place{z, y, x, x, y, z}, 3},
		{[]api.Place{y, other}, 1}, {[]api.Place{asBad(y), other}, 1}, {[]api.Place{asBad(x), y, asBad(z)}, 1},
		{[]api.Place{hot}, 0}, {[]api.Place{hot, x}, 1}, {[]api.Place{rotten}, 0}, {[]api.Place{rotten, z}, 1}, {[]api.Place{asBad(rotten)}, 0},
		{slices.Repeat([]api.Place{x, y}, 500), 2},
		{[]api.Place{place(math.MinInt, 0, 4), place(-1, 0, 4), place(0, 0, 4), place(12, 0, 4), place(math.MaxInt, 0, 4), z}, 1},
		{[]api.Place{place(3, math.MinInt, math.MinInt), place(3, math.MaxInt, math.MaxInt), place(3, 0, math.MaxInt), place(3, math.MaxInt, 4),
			place(3, -1, 4), place(3, 0, -4), place(2, math.MaxInt, math.MaxInt), place(2, math.MinInt, 3), place(2, 0, math.MinInt)}, 0},
	}
	s.nothingChanges(func() {
		for i, c := range cases {
			for _, gone := range []bool{false, true} {
				r := recordWith("a", b, slices.Concat(c.copies, []api.Place{x})[:len(c.copies)]...)
				r.Gone, r.Index, r.Expiry = gone, -1, -1
				before := slices.Clone(r.Copies)
				if n := s.s.Right(r); n != c.want || !slices.Equal(r.Copies, before) {
					t.Errorf("%d: %d; want %d", i, n, c.want)
				}
			}
		}
		others := []api.Record{{}, {Copies: []api.Place{x, hot}}, {ID: "A?", Length: -1, Copies: []api.Place{x}},
			{ID: "b", Length: 70, Root: chunk.Root(b), Copies: []api.Place{x, y}}, {ID: "a", Length: math.MaxInt, Root: chunk.Root(b), Copies: []api.Place{x}}}
		for i, r := range others {
			if n := s.s.Right(r); n != 0 {
				t.Errorf("another one, %d: %d", i, n)
			}
		}
	})
	s.set(recordWith("a", b, x))
	s.works(api.WorkMend) // Right had not begun a pass
}

// TestRightWithoutPower: it is not told, but 0.
func TestRightWithoutPower(t *testing.T) { // P17.2, R3
	s := made(t, 2, 60, 60)
	b := ones(70)
	r := recordWith("a", b, s.hot(b), s.cold(0, "a", b), s.cold(1, "a", b), place(4, 50, 3))
	s.set(r)
	s.p.Fuse(0)
	s.p.Flush(0)
	if n := s.s.Right(r); n != 0 {
		t.Error(n)
	}
	s.boot()
	s.rightAre("a", 2)
}

// TestWithoutPower: a step asks for what it needs, and ends.
func TestWithoutPower(t *testing.T) { // R3
	s := made(t, 2, 60, 60)
	s.put("a", ones(70), 0)
	s.put("b", ones(70), 1)
	pairs := s.pairs()
	s.p.Fuse(0)
	s.p.Flush(0)
	s.fails(api.ErrPower)
	s.fails(api.ErrPower)
	s.boot()
	s.lengthsAre(4, 4)
	if s.onlyCopiesChange(pairs) != "" {
		t.Error("something was changed")
	}
	s.works(api.WorkMend, api.WorkMend, api.WorkPass, api.WorkScrub)
}

// TestCatalogueErrors: an error of the catalogue ends the step, and the next one looks at
// the same record.
func TestCatalogueErrors(t *testing.T) { // P17.3, R2
	for _, want := range []api.Errno{api.ErrCorrupt, api.ErrFull} {
		s := made(t, 2, 60, 60, 60)
		s.put("a", ones(5), 0, 1)
		s.put("b", ones(5), 0)
		s.put("c", ones(5), 0, 1)
		s.turn(place(4, 3, 3)) // that of c
		f := s.faults()
		f.list = want
		s.fails(want)
		f.list = api.OK
		s.works(api.WorkScrub)
		f.apply = want
		s.fails(want)
		s.copiesAre("b", place(3, 3, 3))
		s.lengthsAre(9, 9, 0) // but what was written is there
		f.apply, f.list = api.OK, want
		s.fails(want)
		f.list = api.OK
		s.works(api.WorkMend)
		s.copiesAre("b", place(3, 3, 3), place(4, 9, 3))
		f.apply = want
		s.fails(want)
		s.copiesAre("c", place(3, 6, 3), place(4, 3, 3))
		f.apply = api.OK
		s.works(api.WorkMend)
		s.copiesAre("c", place(3, 6, 3), bad(4, 3, 3), place(4, 15, 3))
		f.list = want
		s.fails(want) // where the pass would end, too
		f.list = api.OK
		s.works(api.WorkPass)
		f.list = want
		s.fails(want)
		f.list = api.OK
		s.works(api.WorkScrub, api.WorkScrub, api.WorkScrub, api.WorkPass)
	}
}

// TestRottenCatalogue: whatever is answered of a catalogue that rotted, nothing panics, and
// each step ends.
func TestRottenCatalogue(t *testing.T) { // R1, R4
	seen := map[string]int{}
	for i := range 802 {
		s := made(t, 2, 60, 60)
		s.put("a", ones(5), 0)
		s.put("b", ones(5), 1)
		ok(t, s.c.Checkpoint())
		s.p.Rot(disk, i, 5, 255)
		for range 4 {
			w, e := s.s.Step()
			seen[fmt.Sprint(w, e)]++
		}
	}
	if len(seen) < 3 {
		t.Error("nothing rotted", seen)
	}
}

// TestTapeErrors: an error of a tape ends the step, and nothing has changed.
func TestTapeErrors(t *testing.T) { // P17.3, R2
	s := made(t, 2, 60, 60)
	s.put("a", ones(5), 0)
	s.put("b", ones(5), 0)
	_, spies := s.spies()
	spies[1].append = api.ErrFull
	s.nothingChanges(func() {
		s.fails(api.ErrFull)
		s.fails(api.ErrFull)
	})
	spies[1].append = api.OK
	spies[0].read = api.ErrPower
	s.nothingChanges(func() {
		s.fails(api.ErrPower)
		s.rightAre("a", 0)
	})
	spies[0].read = api.OK
	spies[1].flushed = func() { spies[1].read = api.ErrPower } // where it is read back
	s.fails(api.ErrPower)
	s.copiesAre("a", place(3, 0, 3))
	spies[1].flushed, spies[1].read = nil, api.OK
	s.works(api.WorkMend, api.WorkMend, api.WorkPass)
	s.copiesAre("a", place(3, 0, 3), place(4, 3, 3))
}

// TestReadBackWrong: a copy that is not right when it is read back is not named; that is a
// mend, and what there was stays, Bad or not, though there be as many as may be.
func TestReadBackWrong(t *testing.T) { // P17.3
	b := ones(5)
	for _, n := range []int{0, 1, 6, 7} {
		s := made(t, 2, 60, 60)
		x := s.cold(0, "a", b)
		l := append([]api.Place{x}, slices.Repeat([]api.Place{bad(0, 1, 1)}, n)...)
		s.set(recordWith("a", b, l...))
		_, spies := s.spies()
		spies[1].flushed = func() { s.turn(place(4, 0, 3)) }
		s.works(api.WorkMend)
		s.copiesAre("a", l...)
		s.rightAre("a", 1)
		s.lengthsAre(3, 3)
		spies[1].flushed = nil
		s.works(api.WorkPass, api.WorkMend, api.WorkPass, api.WorkScrub)
		if n == 7 {
			l = l[:len(l)-1]
		}
		s.copiesAre("a", append(l, place(4, 3, 3))...)
	}

	s := made(t, 2, 60, 60, 60) // what was found wrong is kept all the same
	s.put("a", b, 0, 1)
	s.turn(place(3, 0, 3))
	_, spies := s.spies()
	spies[0].flushed = func() { s.turn(place(3, 3, 3)) }
	s.works(api.WorkMend)
	s.copiesAre("a", bad(3, 0, 3), place(4, 0, 3))
	s.boot()
	s.copiesAre("a", bad(3, 0, 3), place(4, 0, 3))
	s.works(api.WorkMend)
	s.copiesAre("a", bad(3, 0, 3), place(4, 0, 3), place(3, 6, 3))
}

// TestSomeOfTheTapes: a place is read from the tape of its Dev, whichever tapes were given.
func TestSomeOfTheTapes(t *testing.T) { // P17.2, P17.3
	s := made(t, 2, 60, 60, 60)
	b := ones(5)
	x, y, z := s.cold(0, "a", b), s.cold(1, "a", b), s.cold(2, "a", b)
	r := recordWith("a", b, x, y, z)
	s.set(r)
	for _, c := range []struct {
		tapes []*coldvol.Volume
		want  int
	}{{s.tapes[:1], 1}, {s.tapes[:2], 2}, {s.tapes[1:], 2}, {s.tapes[2:], 1}, {[]*coldvol.Volume{s.tapes[2], s.tapes[0]}, 2}} {
		if n := New(s.c, s.h, c.tapes, 2).Right(r); n != c.want {
			t.Errorf("%d of %d", n, c.want)
		}
	}
	if w, e := New(s.c, s.h, s.tapes[1:], 2).Step(); w != api.WorkMend || e != api.OK {
		t.Error(w, e)
	}
	s.copiesAre("a", asBad(x), y, z)
	s.lengthsAre(3, 3, 3)
}

// TestNothingRotted: passes over objects of all kinds that are as they should be.
func TestNothingRotted(t *testing.T) { // P17.3, P17.6
	s := made(t, 2, 100, 100, 100)
	b := ones(60)
	s.put("a", b, 0, 1)
	s.put("b", ones(512), 2, 0, 1)
	s.put("c", nil, 1, 2)
	s.set(recordWith("d", b, s.hot(b)))
	s.set(recordWith("e", b, s.hot(b), s.cold(2, "e", b), bad(3, 7, 7)))
	s.set(recordWith("f", b, bad(3, 7, 7)))
	s.set(recordWith("g", b))
	gone := recordWith("h", b, place(3, 90, 4))
	gone.Gone = true
	s.set(gone)
	before := s.sectors()
	s.nothingChanges(func() {
		for range 3 {
			s.works(slices.Repeat([]api.Work{api.WorkScrub}, 7)...)
			s.works(api.WorkPass)
		}
	})
	if s.sectors() != before {
		t.Error("a device was changed")
	}
}

// sectors are all that the plant's devices have.
func (s *stand) sectors() string {
	s.t.Helper()
	var all []byte
	shape := s.p.Shape()
	for dev := range len(shape.Disks) + len(shape.Tapes) {
		n, e := s.p.Len(dev)
		ok(s.t, e)
		for i := range n {
			b, e := s.p.Read(dev, i)
			ok(s.t, e)
			all = append(all, b...)
		}
	}
	return string(all)
}

// TestNames: the longest id, and a record that has all that a record may have.
func TestNames(t *testing.T) { // P17.3, P17.6
	s := made(t, 2, 60, 60)
	id := "zzzzzzzzzzzzzzzz"
	b := ones(512)
	r := recordWith(id, b, s.cold(1, id, b))
	r.Index, r.Expiry, r.Hold = math.MaxInt32, api.MaxClock, true
	for range 7 {
		r.Copies = append(r.Copies, place(11, 4095, 255))
	}
	s.set(r)
	s.works(api.WorkMend, api.WorkPass, api.WorkScrub)
	now := s.record(id)
	if len(now.Copies) != 8 || now.Copies[7] != place(3, 0, 12) || now.Copies[0].Bad || !now.Copies[6].Bad {
		t.Error(now.Copies)
	}
	now.Copies = r.Copies
	if !sameRecord(r, now) {
		t.Error(now)
	}
}
