package migrate

import (
	"math"
	"slices"
	"testing"

	"muniment/api"
	"muniment/catalog"
	"muniment/chunk"
	"muniment/coldvol"
	"muniment/hotlog"
	"muniment/plant"
)

// TestExample3: a copy to the one tape, a copy to the other one, then the record names
// both, and the hot copy's sectors are free.
func TestExample3(t *testing.T) { // P16.2, P16.3, DOC.md's example 3
	s := made(t, 2, 100, 100)
	s.put("b", ones(100))
	s.works(api.WorkCopy)
	s.lengthsAre(4, 0)
	s.copiesAre("b", place(hotDisk, 0, 3))
	s.works(api.WorkCopy)
	s.lengthsAre(4, 4)
	s.copiesAre("b", place(hotDisk, 0, 3))
	s.stays(place(hotDisk, 0, 3))
	s.works(api.WorkSwitch, api.WorkNone, api.WorkNone)
	s.copiesAre("b", place(3, 0, 4), place(4, 0, 4))
	s.isFree(place(hotDisk, 0, 3))
	if x := s.hot(ones(512)); x != place(hotDisk, 0, 9) {
		t.Error("the hot disk is not free:", x)
	}
}

// TestExample4: a byte of the first copy rots; the other one is as it was.
func TestExample4(t *testing.T) { // P16.3, DOC.md's example 4
	s := made(t, 2, 100, 100)
	s.put("b", ones(100))
	s.works(toTwo...)
	s.p.Rot(3, 1, 5, 1)
	r := s.record("b")
	if s.rightAt(r, r.Copies[0]) || !s.rightAt(r, r.Copies[1]) {
		t.Error("the second copy hangs on the first one")
	}
	s.works(api.WorkNone) // nothing of it is on the hot disk
}

// TestReplicas: below 1, 1, as many as there are tapes, more than there are.
func TestReplicas(t *testing.T) { // P16.1, P16.2
	for _, n := range []int{math.MinInt, -1, 0, 1} {
		s := made(t, n, 20, 20)
		s.put("a", ones(5))
		s.works(append(toOne, api.WorkNone)...)
		s.copiesAre("a", place(3, 0, 3))
		s.lengthsAre(3, 0)
	}
	s := made(t, 4, 20, 20, 20, 20)
	s.put("a", ones(5))
	s.works(api.WorkCopy, api.WorkCopy, api.WorkCopy, api.WorkCopy, api.WorkSwitch, api.WorkNone)
	s.copiesAre("a", place(3, 0, 3), place(4, 0, 3), place(5, 0, 3), place(6, 0, 3))
	for _, n := range []int{3, 4, 100, math.MaxInt} {
		s := made(t, n, 20, 20)
		s.put("a", ones(5))
		s.works(api.WorkNone, api.WorkNone)
		s.lengthsAre(0, 0)
	}
}

// TestNothing: no tapes, no records, neither.
func TestNothing(t *testing.T) { // P16.1, P16.2
	for _, n := range []int{-1, 0, 1, 2} {
		made(t, n).works(api.WorkNone, api.WorkNone)
		made(t, n, 20, 20).works(api.WorkNone, api.WorkNone)
		s := made(t, n)
		s.put("a", ones(5))
		s.works(api.WorkNone, api.WorkNone)
		s.stays(place(hotDisk, 0, 2))
		g := New(s.c, s.h, nil, n)
		if w, e := g.Step(); w != api.WorkNone || e != api.OK {
			t.Error(w, e)
		}
	}
}

// TestJustThese: an engine has the tapes that it was given, whatever becomes of the list;
// it begins with nothing at hand, and no two know of one another.
func TestJustThese(t *testing.T) { // P16.1, R6
	s := made(t, 1, 20, 20)
	s.put("a", ones(5))
	s.put("b", ones(5))
	l := []*coldvol.Volume{s.tapes[0], s.tapes[1]}
	given := slices.Clone(l)
	s.g = New(s.c, s.h, l[:1], 1)
	l[0] = s.tapes[1]
	s.works(append(toOne, toOne...)...)
	s.works(api.WorkNone)
	s.lengthsAre(6, 0)
	l[0] = given[0]
	s.put("c", ones(5))
	s.g = New(s.c, s.h, l, 2)
	s.works(api.WorkCopy)
	if !slices.Equal(l, given) {
		t.Error("the list was changed")
	}
	s.replicas = 2
	s.again()
	s.works(append(toTwo, api.WorkNone)...)
	s.copiesAre("c", place(3, 9, 3), place(4, 0, 3))
}

// TestWhatWaits: which records are brought to a tape, and which are not.
func TestWhatWaits(t *testing.T) { // P16.2, P16.5
	b := ones(100)
	cases := []struct {
		name string
		want bool
		make func(s *stand) api.Record
	}{
		{"right", true, func(s *stand) api.Record { return recordOf("a", b, s.hot(b)) }},
		{"empty", true, func(s *stand) api.Record { return recordOf("a", nil, s.hot(nil)) }},
		{"longest", true, func(s *stand) api.Record { return recordOf("a", ones(512), s.hot(ones(512))) }},
		{"locked and held", true, func(s *stand) api.Record {
			r := recordOf("a", b, s.hot(b))
			r.Index, r.Expiry, r.Hold = 7, 50, true
			return r
		}},
		{"gone", false, func(s *stand) api.Record {
			r := recordOf("a", b, s.hot(b))
			r.Gone = true
			return r
		}},
		{"no places", false, func(s *stand) api.Record { return recordOf("a", b) }},
		{"none on the hot disk", false, func(s *stand) api.Record {
			return recordOf("a", b, s.cold(1, "a", b), place(0, 0, 3), place(1, 0, 3), place(4, 9, 3))
		}},
		{"on another disk", false, func(s *stand) api.Record {
			x := s.hot(b)
			x.Dev = 1
			return recordOf("a", b, x)
		}},
		{"bad", false, func(s *stand) api.Record {
			x := s.hot(b)
			x.Bad = true
			return recordOf("a", b, x)
		}},
		{"not in use", false, func(s *stand) api.Record {
			x := s.hot(b)
			ok(s.t, s.h.Free(x))
			return recordOf("a", b, x)
		}},
		{"another length", false, func(s *stand) api.Record {
			r := recordOf("a", b, s.hot(b))
			r.Length++
			return r
		}},
		{"no length", false, func(s *stand) api.Record {
			r := recordOf("a", b, s.hot(b))
			r.Length = 0
			return r
		}},
		{"another root", false, func(s *stand) api.Record {
			r := recordOf("a", b, s.hot(b))
			r.Root[31]++
			return r
		}},
		{"other bytes", false, func(s *stand) api.Record { return recordOf("a", b, s.hot(make([]byte, 100))) }},
		{"more bytes", false, func(s *stand) api.Record { return recordOf("a", b, s.hot(ones(101))) }},
		{"a bad one first", true, func(s *stand) api.Record {
			x, y := s.hot(b), s.hot(b)
			x.Bad = true
			return recordOf("a", b, x, y)
		}},
		{"a wrong one first", true, func(s *stand) api.Record {
			return recordOf("a", b, s.hot(ones(99)), place(hotDisk, 90, 3), s.hot(b))
		}},
		{"a bad one behind", true, func(s *stand) api.Record {
			x, y := s.hot(b), s.hot(b)
			y.Bad = true
			return recordOf("a", b, x, y)
		}},
		{"two wrong ones", false, func(s *stand) api.Record { return recordOf("a", b, s.hot(ones(99)), s.hot(ones(101))) }},
	}
	for _, c := range cases {
		t.Run(c.name, func(t *testing.T) {
			s := made(t, 1, 20, 20)
			s.set(c.make(s))
			before := s.record("a").Copies
			if !c.want {
				s.works(api.WorkNone, api.WorkNone)
				s.copiesAre("a", before...)
				return
			}
			s.works(append(toOne, api.WorkNone)...)
			for _, x := range before {
				if x.Dev == hotDisk {
					s.isFree(x)
				}
			}
		})
	}
}

// TestNoRecords: what the catalogue has beside records, at keys that look like theirs.
func TestNoRecords(t *testing.T) { // P16.2, P16.6
	s := made(t, 1, 40)
	s.put("m", ones(5))
	value := s.pairs()["om"]
	moved, refused := "oa", "ob"
	s.lay(moved, []byte(value)) // its id says another key
	s.lay(refused, append([]byte(value), 0))
	s.lay("oc", nil)
	s.lay("o", []byte(value))
	s.lay("on.............too-long", []byte(value))
	s.lay("o\xff\x00", []byte{1})
	s.lay("m", []byte(value))
	s.lay("c", []byte{1})
	s.lay("pm", []byte(value))
	s.lay("l\x00\x00\x00\x00", []byte(value))
	before := s.pairs()
	s.works(append(toOne, api.WorkNone)...)
	s.copiesAre("m", place(3, 0, 3))
	after := s.pairs()
	for key, was := range before {
		if key != "om" && after[key] != was {
			t.Errorf("%q was changed", key)
		}
	}
}

// TestTwoHotPlaces: the first right one is copied, both are given up.
func TestTwoHotPlaces(t *testing.T) { // P16.2
	s := made(t, 1, 20)
	b := ones(100)
	x, other, y, z := s.hot(b), s.hot(b), s.hot(b), s.hot(nil)
	z.Bad = true
	s.set(recordOf("a", b, x, place(0, 5, 1), y, z, place(hotDisk, 80, 2)))
	s.set(recordOf("b", ones(7), other)) // not right: it stays
	s.works(append(toOne, api.WorkNone)...)
	s.copiesAre("a", place(0, 5, 1), place(3, 0, 4))
	s.isFree(x)
	s.isFree(y)
	s.isFree(z)
	s.stays(other)
}

// TestFreedBehindTheRecord: what of the hot disk is not in use any more does not matter.
func TestFreedBehindTheRecord(t *testing.T) { // P16.2
	s := made(t, 1, 20)
	b := ones(10)
	x, y := s.hot(b), s.hot(b)
	s.set(recordOf("a", b, y, x, x, y, y))
	ok(t, s.h.Free(y))
	s.works(toOne...)
	s.copiesAre("a", place(3, 0, 3))
	s.isFree(x)
	s.isFree(y)
}

// TestNamedAlready: a tape that the record names is not open to it, be the place Bad or
// not; nor is a place of a device that is no tape of these a tape's.
func TestNamedAlready(t *testing.T) { // P16.2
	b := ones(5)
	for _, named := range []api.Place{place(4, 0, 3), bad(4, 0, 3), place(4, 4000, 255), place(4, 0, 0)} {
		s := made(t, 2, 20, 20, 20)
		s.set(recordOf("a", b, named, s.hot(b)))
		s.works(append(toTwo, api.WorkNone)...)
		s.copiesAre("a", named, place(3, 0, 3), place(5, 0, 3))
		s = made(t, 2, 20, 20)
		s.set(recordOf("a", b, s.hot(b), named))
		s.works(api.WorkNone, api.WorkNone)
		s.lengthsAre(0, 0)
	}
	s := made(t, 2, 20, 20)
	s.set(recordOf("a", b, place(0, 1, 1), s.hot(b), bad(1, 2, 2), place(5, 0, 3), bad(11, 9, 9)))
	s.works(append(toTwo, api.WorkNone)...)
	s.copiesAre("a", place(0, 1, 1), bad(1, 2, 2), place(5, 0, 3), bad(11, 9, 9), place(3, 0, 3), place(4, 0, 3))
}

// TestRoom: a tape with just so much Room as is wanted, and with one block less.
func TestRoom(t *testing.T) { // P16.2
	for _, n := range []int{0, 1, 56, 57, 112, 511, 512} {
		want := coldvol.Blocks(n)
		s := made(t, 1, want+2)
		s.put("a", ones(n))
		s.works(append(toOne, api.WorkNone)...)
		s.copiesAre("a", place(3, 0, want))
		s = made(t, 1, want+1)
		s.put("a", ones(n))
		s.works(api.WorkNone, api.WorkNone)
		s = made(t, 1, want+1, 1, want+2, 50) // the least one that has Room
		s.put("a", ones(n))
		s.works(append(toOne, api.WorkNone)...)
		s.copiesAre("a", place(5, 0, want))
		s = made(t, 2, want+2, want+1)
		s.put("a", ones(n))
		s.works(api.WorkNone, api.WorkNone)
		s.lengthsAre(0, 0)
	}
}

// TestSealed: a tape that is sealed is not open.
func TestSealed(t *testing.T) { // P16.2
	s := made(t, 2, 40, 40, 40)
	s.put("a", ones(5))
	ok(t, s.tapes[0].Seal())
	s.works(append(toTwo, api.WorkNone)...)
	s.copiesAre("a", place(4, 0, 3), place(5, 0, 3))
	s.put("b", ones(5))
	ok(t, s.tapes[2].Seal())
	s.works(api.WorkNone)
	s.lengthsAre(2, 3, 5)
}

// TestTheFrontOfTapes: what a tape has already stays there, also what is no object.
func TestTheFrontOfTapes(t *testing.T) { // P16.2
	s := made(t, 2, 40, 40)
	s.cold(0, "x", ones(60))
	_, e := s.p.Append(4, make([]byte, 64))
	ok(t, e)
	s.put("a", ones(5))
	s.works(append(toTwo, api.WorkNone)...)
	s.copiesAre("a", place(3, 4, 3), place(4, 1, 3))
}

// TestOrder: ids by their bytes, and round and round.
func TestOrder(t *testing.T) { // P16.2
	s := made(t, 1, 200)
	ids := []string{"-", ".", "0", "9", "a", "a-", "a.", "a0", "aa", "aaaaaaaaaaaaaaaa", "ab", "b", "z", "zz"}
	for i := range ids {
		s.put(ids[(i*5+3)%len(ids)], ones(1))
	}
	for i, id := range ids {
		s.works(toOne...)
		s.copiesAre(id, place(3, 3*i, 3))
	}
	s.works(api.WorkNone)
}

// TestBehindTheLast: ids behind that of the last one first, then the least of all; it need
// not be there any more.
func TestBehindTheLast(t *testing.T) { // P16.2
	s := made(t, 1, 200)
	s.put("m", ones(1))
	s.works(toOne...)
	for _, id := range []string{"a", "c", "n", "l", "z"} {
		s.put(id, ones(1))
	}
	at := 3
	brought := func(id string) {
		t.Helper()
		s.works(toOne...)
		s.copiesAre(id, place(3, at, 3))
		at += 3
	}
	brought("n")
	brought("z")
	s.works(api.WorkCopy) // a is at hand
	ok(t, s.c.Apply([]api.Change{{Key: []byte("oa"), Gone: true}}))
	s.put("b", ones(1))
	at += 3
	brought("b")
	brought("c")
	s.put("a", ones(1))
	brought("l")
	brought("a")
	s.works(api.WorkNone)
	s.put("a2", ones(1))
	s.put("0", ones(1))
	brought("a2") // none is at hand: what was last counts still
	brought("0")
	s.again()
	s.put("1", ones(1))
	s.put("5", ones(1))
	brought("1")
	brought("5")
}

// TestRound: one that is let go again and again does not stand in the others' way.
func TestRound(t *testing.T) { // P16.2
	s := made(t, 2, 40, 40)
	b := ones(5)
	l := []api.Place{s.hot(b)}
	for i := range api.MaxCopies - 1 {
		l = append(l, place(0, i, 1)) // with two more than may be, and none is Bad
	}
	s.set(recordOf("a", b, l...))
	s.put("b", b)
	s.put("c", b)
	letGo := []api.Work{api.WorkCopy, api.WorkCopy, api.WorkNone}
	s.works(slices.Concat(letGo, toTwo, toTwo, letGo)...)
	s.copiesAre("a", l...)
	s.put("d", b)
	s.works(toTwo...)
	s.works(letGo...)
}

// TestMaxCopies: the first Bad ones go, and no more of them than must.
func TestMaxCopies(t *testing.T) { // P16.2
	b := ones(5)
	s := made(t, 2, 20, 20)
	s.set(recordOf("a", b, place(0, 1, 1), bad(0, 2, 1), place(0, 3, 1), bad(0, 4, 1), s.hot(b), place(0, 5, 1), place(0, 6, 1), bad(0, 7, 1)))
	s.works(append(toTwo, api.WorkNone)...)
	s.copiesAre("a", place(0, 1, 1), place(0, 3, 1), bad(0, 4, 1), place(0, 5, 1), place(0, 6, 1), bad(0, 7, 1), place(3, 0, 3), place(4, 0, 3))

	s = made(t, 3, 20, 20, 20)
	s.set(recordOf("a", b, bad(9, 1, 1), bad(8, 2, 1), s.hot(b), place(0, 3, 1), place(0, 4, 1), place(0, 5, 1), place(0, 6, 1), bad(0, 7, 1)))
	s.works(api.WorkCopy, api.WorkCopy, api.WorkCopy, api.WorkSwitch, api.WorkNone)
	s.copiesAre("a", place(0, 3, 1), place(0, 4, 1), place(0, 5, 1), place(0, 6, 1), bad(0, 7, 1), place(3, 0, 3), place(4, 0, 3), place(5, 0, 3))

	s = made(t, 1, 20)
	s.set(recordOf("a", b, place(0, 1, 1), place(0, 2, 1), place(0, 3, 1), s.hot(b), place(0, 4, 1), place(0, 5, 1), place(0, 6, 1), place(0, 7, 1)))
	s.works(append(toOne, api.WorkNone)...) // eight ahead of it, eight behind it
	s.copiesAre("a", place(0, 1, 1), place(0, 2, 1), place(0, 3, 1), place(0, 4, 1), place(0, 5, 1), place(0, 6, 1), place(0, 7, 1), place(3, 0, 3))

	s = made(t, 2, 20, 20)
	s.set(recordOf("a", b, bad(0, 1, 1), bad(0, 2, 1), s.hot(b), bad(0, 3, 1), bad(0, 4, 1), bad(0, 5, 1), bad(0, 6, 1)))
	s.works(append(toTwo, api.WorkNone)...) // just eight: none goes
	s.copiesAre("a", bad(0, 1, 1), bad(0, 2, 1), bad(0, 3, 1), bad(0, 4, 1), bad(0, 5, 1), bad(0, 6, 1), place(3, 0, 3), place(4, 0, 3))
}

// TestMaxCopiesWithoutBad: as if one were not right; places on the hot disk do not count.
func TestMaxCopiesWithoutBad(t *testing.T) { // P16.2
	b := ones(5)
	s := made(t, 3, 20, 20, 20)
	x := s.hot(b)
	l := []api.Place{place(0, 1, 1), place(0, 2, 1), place(0, 3, 1), x, bad(0, 4, 1), place(0, 5, 1), place(0, 6, 1), place(0, 7, 1)}
	s.set(recordOf("a", b, l...))
	letGo := []api.Work{api.WorkCopy, api.WorkCopy, api.WorkCopy, api.WorkNone}
	s.works(letGo...) // one Bad is there, two are wanted
	s.copiesAre("a", l...)
	s.stays(x)
	s.works(letGo...)
	s.lengthsAre(6, 6, 6)

	s = made(t, 9, 20, 20, 20, 20, 20, 20, 20, 20, 20)
	s.put("a", b)
	for range 9 {
		s.works(api.WorkCopy)
	}
	s.works(api.WorkNone)

	s = made(t, 8, 20, 20, 20, 20, 20, 20, 20, 20)
	x, y := s.hot(b), s.hot(b)
	s.set(recordOf("a", b, bad(hotDisk, 70, 1), x, place(hotDisk, 71, 1), y))
	for range 8 {
		s.works(api.WorkCopy)
	}
	s.works(api.WorkSwitch, api.WorkNone)
	s.isFree(x)
	s.isFree(y)
}

// TestWaitsNoMore: an object at hand is let go, whatever makes it wait no more, behind
// each of its steps; the next one comes to hand in the same step.
func TestWaitsNoMore(t *testing.T) { // P16.2
	x := place(hotDisk, 0, 2)
	ways := map[string]func(s *stand){
		"gone":       func(s *stand) { s.change("a", func(r *api.Record) { r.Gone = true }) },
		"bad":        func(s *stand) { s.change("a", func(r *api.Record) { r.Copies[0].Bad = true }) },
		"no places":  func(s *stand) { s.change("a", func(r *api.Record) { r.Copies = nil }) },
		"on tape":    func(s *stand) { s.change("a", func(r *api.Record) { r.Copies[0].Dev = 3 }) },
		"root":       func(s *stand) { s.change("a", func(r *api.Record) { r.Root[0]++ }) },
		"length":     func(s *stand) { s.change("a", func(r *api.Record) { r.Length++ }) },
		"refused":    func(s *stand) { s.lay("oa", []byte("?")) },
		"empty":      func(s *stand) { s.lay("oa", nil) },
		"another's":  func(s *stand) { s.lay("oa", []byte(s.pairs()["ob"])) },
		"taken away": func(s *stand) { ok(s.t, s.c.Apply([]api.Change{{Key: []byte("oa"), Gone: true}})) },
		"freed":      func(s *stand) { ok(s.t, s.h.Free(x)) },
		"rotten":     func(s *stand) { s.p.Rot(hotDisk, 0, 30, 1) },
		"replaced": func(s *stand) {
			ok(s.t, s.h.Free(x))
			if y := s.hot(ones(6)); y != x {
				s.t.Fatal(y)
			}
		},
	}
	for name, way := range ways {
		for n := 1; n <= 2; n++ {
			t.Run(name, func(t *testing.T) {
				s := made(t, 2, 40, 40)
				s.put("a", ones(5))
				s.put("b", ones(70))
				s.works(toTwo[:n]...)
				way(s)
				before := s.pairs()["oa"]
				s.works(append(toTwo, api.WorkNone)...)
				s.copiesAre("b", place(3, 3, 4), place(4, 3*(n-1), 4))
				if s.pairs()["oa"] != before {
					t.Error("the one that waits no more was changed")
				}
			})
		}
	}
}

// TestWaitsAgain: one that was let go comes to hand anew: its copies of then do not count.
func TestWaitsAgain(t *testing.T) { // P16.2
	for n := 1; n <= 2; n++ {
		s := made(t, 2, 40, 40)
		s.put("a", ones(5))
		s.works(toTwo[:n]...)
		s.change("a", func(r *api.Record) { r.Gone = true })
		s.works(api.WorkNone)
		s.change("a", func(r *api.Record) { r.Gone = false })
		s.works(append(toTwo, api.WorkNone)...)
		s.copiesAre("a", place(3, 3, 3), place(4, 3*(n-1), 3))
	}
	s := made(t, 2, 40, 40) // back ahead of the next step: nothing was seen of it
	s.put("a", ones(5))
	s.works(api.WorkCopy)
	s.change("a", func(r *api.Record) { r.Gone = true })
	s.change("a", func(r *api.Record) { r.Gone = false })
	s.works(api.WorkCopy, api.WorkSwitch)
	s.copiesAre("a", place(3, 0, 3), place(4, 0, 3))
}

// TestReadAnew: what is changed of a record between steps stays.
func TestReadAnew(t *testing.T) { // P16.2, P16.6
	for n := 0; n <= 2; n++ {
		s := made(t, 2, 40, 40)
		s.put("a", ones(5))
		s.works(toTwo[:n]...)
		s.change("a", func(r *api.Record) { r.Index, r.Expiry, r.Hold = 9, 77, true })
		s.works(append(toTwo[n:], api.WorkNone)...)
		if r := s.record("a"); r.Index != 9 || r.Expiry != 77 || !r.Hold {
			t.Error(r)
		}
	}
}

// TestPlacesReadAnew: a record whose places are others than when it came to hand.
func TestPlacesReadAnew(t *testing.T) { // P16.2
	s := made(t, 2, 40, 40, 40)
	b := ones(5)
	s.put("a", b)
	s.works(api.WorkCopy)
	x := s.hot(b)
	s.change("a", func(r *api.Record) { r.Copies = []api.Place{bad(4, 9, 3), r.Copies[0], x} })
	s.works(api.WorkCopy)
	s.lengthsAre(3, 0, 3)
	y := s.hot(b)
	ok(t, s.h.Free(x))
	s.change("a", func(r *api.Record) { r.Copies = []api.Place{y, bad(3, 30, 3), r.Copies[1]} })
	s.works(api.WorkSwitch, api.WorkNone)
	s.copiesAre("a", bad(3, 30, 3), place(3, 0, 3), place(5, 0, 3))
	s.isFree(y)
	s.isFree(place(hotDisk, 0, 2))
}

// TestAnotherObject: a record that is of other bytes than when it came to hand does not
// come to name copies of those.
func TestAnotherObject(t *testing.T) { // P16.2, P16.5
	for n := 1; n <= 2; n++ {
		for _, b := range [][]byte{ones(6), make([]byte, 5)} {
			s := made(t, 2, 40, 40)
			s.put("a", ones(5))
			s.works(toTwo[:n]...)
			x := s.hot(b)
			s.set(recordOf("a", b, x))
			s.works(toTwo[n:2]...)
			s.works(api.WorkNone)
			s.copiesAre("a", x)
			s.stays(x)
			s.works(append(toTwo, api.WorkNone)...)
			s.copiesAre("a", place(3, 3, 3), place(4, 3, 3))
		}
	}
}

// TestFillsUp: a tape that fills up, or is sealed, while an object is at hand: the copy
// goes to the next one that is open; if there is none, the object is let go.
func TestFillsUp(t *testing.T) { // P16.2
	ways := map[string]func(v *coldvol.Volume) api.Errno{
		"full":   func(v *coldvol.Volume) api.Errno { _, e := v.Append("x", ones(300)); return e },
		"sealed": func(v *coldvol.Volume) api.Errno { return v.Seal() },
	}
	for name, way := range ways {
		t.Run(name, func(t *testing.T) {
			s := made(t, 2, 10, 10, 10)
			s.put("a", ones(5))
			s.works(api.WorkCopy)
			ok(t, way(s.tapes[1]))
			s.works(api.WorkCopy, api.WorkSwitch)
			s.copiesAre("a", place(3, 0, 3), place(5, 0, 3))

			s = made(t, 2, 10, 10)
			s.put("a", ones(5))
			s.put("b", nil)
			s.works(api.WorkCopy)
			ok(t, way(s.tapes[1]))
			s.works(api.WorkNone, api.WorkNone)
			s.copiesAre("a", place(hotDisk, 0, 2))

			s = made(t, 2, 10, 10) // what was written is read back, full or not
			s.put("a", ones(5))
			s.works(api.WorkCopy, api.WorkCopy)
			ok(t, s.tapes[0].Seal())
			ok(t, s.tapes[1].Seal())
			s.works(api.WorkSwitch)
			s.copiesAre("a", place(3, 0, 3), place(4, 0, 3))
		})
	}
}

// TestFillsUpForOne: the object is let go, and the next one behind it comes to hand in
// the next step.
func TestFillsUpForOne(t *testing.T) { // P16.2
	s := made(t, 2, 40, 14)
	s.put("a", ones(112))
	s.put("b", nil)
	s.works(api.WorkCopy)
	s.cold(1, "x", ones(280)) // five blocks are left for objects: a takes four
	s.cold(1, "x", nil)
	s.works(api.WorkNone)
	s.works(append(toTwo, api.WorkNone)...)
	s.copiesAre("b", place(3, 4, 2), place(4, 9, 2))
	s.copiesAre("a", place(hotDisk, 0, 3))
}

// TestItsOwnTapes: of one object no tape gets two copies, though it has Room.
func TestItsOwnTapes(t *testing.T) { // P16.2, P16.3
	s := made(t, 2, 100, 10)
	s.put("a", ones(5))
	s.works(api.WorkCopy)
	ok(t, s.tapes[1].Seal())
	s.works(api.WorkNone)
	s.lengthsAre(3, 2)
}

// TestOnlyItsTapesAreFlushed: one flush for each tape that has a copy, and none ahead.
func TestOnlyItsTapesAreFlushed(t *testing.T) { // P16.2
	s := made(t, 2, 40, 40, 40)
	s.put("a", ones(5))
	s.cold(2, "x", nil)
	s.works(api.WorkCopy, api.WorkCopy)
	waiting := s.p.Clone()
	waiting.Boot(nil)
	for dev := 3; dev < 6; dev++ {
		if n, _ := waiting.Len(dev); n != 0 {
			t.Errorf("the tape %d was flushed", dev)
		}
	}
	s.works(api.WorkSwitch)
	s.boot()
	s.lengthsAre(3, 3, 0)
}

// TestFull: behind ErrFull the object is at hand as it was, and the same step is done
// again.
func TestFull(t *testing.T) { // P16.2
	for _, e := range []api.Errno{api.ErrFull, api.ErrCorrupt} {
		s := made(t, 2, 40, 40)
		s.put("a", ones(5))
		s.put("b", ones(5))
		f := s.faults()
		s.works(api.WorkCopy, api.WorkCopy)
		f.apply = e
		for range 3 {
			s.fails(e)
			s.copiesAre("a", place(hotDisk, 0, 2))
			s.stays(place(hotDisk, 0, 2))
			s.lengthsAre(3, 3)
		}
		f.apply = api.OK
		s.works(api.WorkSwitch)
		s.copiesAre("a", place(3, 0, 3), place(4, 0, 3))
		s.works(append(toTwo, api.WorkNone)...)
	}
}

// TestFullAndLetGo: behind ErrFull it is looked at anew, as behind any other step.
func TestFullAndLetGo(t *testing.T) { // P16.2
	s := made(t, 2, 40, 40)
	s.put("a", ones(5))
	f := s.faults()
	s.works(api.WorkCopy, api.WorkCopy)
	f.apply = api.ErrFull
	s.fails(api.ErrFull)
	f.apply = api.OK
	s.change("a", func(r *api.Record) { r.Gone = true })
	s.works(api.WorkNone)
	s.change("a", func(r *api.Record) { r.Gone = false })
	s.works(append(toTwo, api.WorkNone)...)
	s.copiesAre("a", place(3, 3, 3), place(4, 3, 3))
}

// TestFaultsOfTheCatalogue: an error of the catalogue ends the step, whatever is asked of
// it, and what was at hand is at hand as it was.
func TestFaultsOfTheCatalogue(t *testing.T) { // P16.2
	s := made(t, 2, 40, 40)
	f := s.faults()
	s.put("a", ones(5))
	s.put("b", ones(5))
	f.list = api.ErrCorrupt
	s.fails(api.ErrCorrupt) // nothing is at hand
	f.list = api.OK
	s.works(api.WorkCopy)
	f.get = api.ErrCorrupt
	s.fails(api.ErrCorrupt)
	f.get, f.list = api.OK, api.ErrCorrupt // not asked: something is at hand
	s.works(api.WorkCopy)
	s.change("a", func(r *api.Record) { r.Hold, r.Gone = true, true })
	s.fails(api.ErrCorrupt) // a waits no more, but the step is as if it had not been
	s.change("a", func(r *api.Record) { r.Gone = false })
	s.works(api.WorkSwitch)
	s.copiesAre("a", place(3, 0, 3), place(4, 0, 3))
	s.fails(api.ErrCorrupt)
	f.list = api.OK
	s.works(append(toTwo, api.WorkNone)...)
}

// TestRotOfTheCatalogue: the same of a catalogue that rotted, and is mended.
func TestRotOfTheCatalogue(t *testing.T) { // P16.2, R4
	s := made(t, 2, 40, 40)
	s.put("a", ones(5))
	ok(t, s.c.Checkpoint())
	rot := func() {
		for i := range 800 {
			s.p.Rot(disk, 2+i, 17, 1)
		}
	}
	fails := func() {
		t.Helper()
		rot()
		if w, e := s.g.Step(); w != api.WorkNone || e != api.ErrCorrupt {
			t.Fatal(w, e)
		}
		rot()
	}
	fails()
	s.works(api.WorkCopy)
	fails()
	s.works(api.WorkCopy)
	fails()
	s.works(api.WorkSwitch)
	fails()
	s.works(api.WorkNone)
}

// TestPowerIsOff: ErrPower, where a device is asked: the catalogue's disk, or, if all keys
// are in memory, the hot one.
func TestPowerIsOff(t *testing.T) { // P16.2, R3
	for n := range 4 {
		for _, checkpoint := range []bool{true, false} {
			s := made(t, 2, 40, 40)
			s.put("a", ones(5))
			if checkpoint {
				ok(t, s.c.Checkpoint())
			}
			s.works(toTwo[:n]...)
			s.put("b", ones(5))
			s.p.Fuse(0)
			s.p.Flush(journal)
			if s.p.On() {
				t.Fatal("the power is on")
			}
			for range 3 {
				if w, e := s.g.Step(); w != api.WorkNone || e != api.ErrPower {
					t.Fatal(w, e)
				}
			}
			s.boot(1)
			s.works(toTwo...)
		}
	}
}

// TestHotIsDevice2: a place on another disk is none on the hot disk, though what was opened
// as that be this disk.
func TestHotIsDevice2(t *testing.T) { // P16.2
	p, e := plant.New(api.Shape{Disks: []int{64, 802, 96, 96}, Tapes: []int{40}})
	ok(t, e)
	ok(t, catalog.Format(p, journal, disk))
	s := &stand{t: t, p: p}
	s.c, e = catalog.Open(p, journal, disk)
	ok(t, e)
	s.h, e = hotlog.Open(p, 3, nil)
	ok(t, e)
	v, e := coldvol.Open(p, 4)
	ok(t, e)
	s.put("a", ones(5))
	for _, tapes := range [][]*coldvol.Volume{nil, {v}, {v, v}} {
		g := New(s.c, s.h, tapes, 1)
		if w, e := g.Step(); w != api.WorkNone || e != api.OK {
			t.Fatal(w, e)
		}
	}
}

// TestRightBytes: of every length, and read from both tapes.
func TestRightBytes(t *testing.T) { // P16.3
	for n := range api.MaxObject + 1 {
		s := made(t, 2, 40, 40)
		b := ones(n)
		for i := range b {
			b[i] = byte(i * n)
		}
		s.put("a", b)
		s.works(append(toTwo, api.WorkNone)...)
		for k, v := range s.tapes {
			id, got, e := v.Read(s.record("a").Copies[k])
			if id != "a" || e != api.OK || len(got) != n || chunk.Root(got) != chunk.Root(b) {
				t.Fatal(n, k, id, e)
			}
		}
	}
}
