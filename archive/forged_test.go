package archive

import (
	"math/rand"
	"slices"
	"testing"

	"muniment/api"
	"muniment/record"
)

// forge lays keys and values down in the catalogue, as no call does.
func (s *stand) forge(l ...api.Change) {
	s.t.Helper()
	ok(s.t, s.a.keys.Apply(l))
}

func pair(key, value string) api.Change {
	return api.Change{Key: []byte(key), Value: []byte(value)}
}

// recordWith is a record that says whatever is asked.
func recordWith(t *testing.T, id string, turn func(r *api.Record)) api.Change {
	t.Helper()
	r := api.Record{ID: id, Length: 3, Root: chunkRoot("abc")}
	turn(&r)
	b, e := record.Encode(r)
	ok(t, e)
	return pair("o"+id, string(b))
}

func place(dev, at, n int) api.Place { return api.Place{Dev: dev, At: at, Len: n} }

// TestNoArchivesCatalogue: a catalogue that no archive has is none's.
func TestNoArchivesCatalogue(t *testing.T) { // P21.1, R4
	copies := func(id string, l ...api.Place) api.Change {
		return recordWith(t, id, func(r *api.Record) { r.Copies = l })
	}
	for i, l := range [][]api.Change{
		{pair("oz", "")},
		{pair("oz", "what is no record")},
		{pair("oz", string(recordWith(t, "y", func(*api.Record) {}).Value))},
		{pair("o", string(recordWith(t, "y", func(*api.Record) {}).Value))},
		{pair("l", "x")},
		{pair("l\x00\x00\x00\x09", "x")},
		{copies("z", place(api.DevHot, 0, 0))},
		{copies("z", place(api.DevHot, 15, 2))},
		{copies("z", place(api.DevHot, 4000, 2))},
		{copies("z", place(api.DevHot, 17, 3)), copies("y", place(api.DevHot, 19, 1))},
	} {
		s := several(t)
		s.forge(l...)
		if a, e := Open(s.p); a != nil || e != api.ErrCorrupt {
			t.Errorf("%d: Open: %v, %d", i, a, e)
		}
		// The one that was opened ahead of it reads the keys, too.
		for _, o := range append(s.m.asks(), changes...) {
			if got, e := o.at(s.a, s.p); e != api.OK && got != o.none() {
				t.Errorf("%d: %+v: %s, %d", i, o, got, e)
			}
		}
	}
}

// TestForgedRecord: what a record says that no archive wrote is answered by no panic.
func TestForgedRecord(t *testing.T) { // R1
	s := several(t)
	s.forge(recordWith(t, "y", func(r *api.Record) { r.Index = 1 << 30 }))
	for dev := range api.MaxDevices {
		for _, x := range []api.Place{place(dev, 0, 0), place(dev, 4095, 255), place(dev, 3, 4)} {
			if dev == api.DevHot {
				continue
			}
			s.forge(recordWith(t, "z", func(r *api.Record) { r.Copies = []api.Place{x} }))
			s.refuses(get("z"), api.ErrCorrupt)
			s.copiesAre("z", 0)
			s.a = opens(t, s.p)
			s.refuses(get("z"), api.ErrCorrupt)
			s.copiesAre("z", 0)
			s.refuses(inclusion("y", 4), api.ErrTree)
			s.refuses(inclusion("y", 1<<30+1), api.ErrTree)
			for pick := range 8 {
				s.step(pick)
			}
			s.refuses(get("z"), api.ErrCorrupt)
		}
	}
}

// TestNoSuchTape: a copy on a device that is no tape is passed over.
func TestNoSuchTape(t *testing.T) { // P21.3
	s := cold(t)
	r := s.a.records()[0]
	for dev := range api.MaxDevices {
		if dev == api.DevHot || dev == r.Copies[0].Dev {
			continue
		}
		s.forge(recordWith(t, "b", func(x *api.Record) {
			*x = r
			x.Copies = []api.Place{place(dev, 50, 3), r.Copies[0]}
		}))
		s.does(get("b"))
	}
}

// TestAnothersBytes: what stands at a place is another object's, of the same bytes or of
// others, or has too few bytes.
func TestAnothersBytes(t *testing.T) { // P21.3
	s := formatted(t, docShape, 1)
	s.does(put("y", "abc"), put("w", "abd"))
	s.migrates()
	l := s.a.records()
	w, y := l[0].Copies[0], l[1].Copies[0]
	for _, x := range []struct {
		at     api.Place
		length int
		root   api.Hash
	}{{y, 3, chunkRoot("abc")}, {w, 3, chunkRoot("abd")}, {w, 3, chunkRoot("abc")}} {
		s.forge(recordWith(t, "z", func(r *api.Record) { r.Length, r.Root, r.Copies = x.length, x.root, []api.Place{x.at} }))
		s.refuses(get("z"), api.ErrCorrupt)
	}
	for _, length := range []int{0, 2, 4, 512} {
		s.forge(recordWith(t, "y", func(r *api.Record) { r.Length, r.Copies = length, []api.Place{y} }))
		s.refuses(get("y"), api.ErrCorrupt)
	}
	s.forge(recordWith(t, "y", func(r *api.Record) { r.Root, r.Copies = chunkRoot("abd"), []api.Place{y} }))
	s.refuses(get("y"), api.ErrCorrupt)
	s.forge(recordWith(t, "y", func(r *api.Record) { r.Copies = []api.Place{y} }))
	s.does(get("y"))
}

// TestForgedLocks: a lock that is no object's.
func TestForgedLocks(t *testing.T) { // P21.5, R4
	for _, key := range []string{"x", "x\x00", "x\x00\x00\x00\x00\x00\x02", "x\x00\x00\x00\x00\x00\x02none", "x\x00\x00\x00\x00\x00\x02A"} {
		s := several(t)
		s.forge(pair(key, ""))
		if l, e := s.a.Due(); len(l) > 0 || e != api.ErrCorrupt {
			t.Errorf("%q: Due: %v, %d", key, l, e)
		}
	}
	s := several(t)
	s.forge(pair("x\x00\x00\x00\x00\x00\x0anone", "")) // it is later than now
	s.does(due())
}

// TestCopiesInOrder: the first copy that is right and not bad is told, be it hot or cold.
func TestCopiesInOrder(t *testing.T) { // P21.3
	r := rand.New(rand.NewSource(1))
	s := formatted(t, wide, 3)
	s.does(put("c", "abc"))
	s.migrates()
	hot, e := s.a.hot.Append([]byte("abc"))
	ok(t, e)
	l := append(s.a.records()[0].Copies, hot)
	for range 100 {
		var copies []api.Place
		right := false
		for _, k := range r.Perm(4) {
			x := l[k]
			x.Bad = r.Intn(2) == 0
			if r.Intn(2) == 0 {
				x.At += 100
			}
			right = right || !x.Bad && slices.Contains(l, x)
			copies = append(copies, x)
		}
		s.forge(recordWith(t, "c", func(r *api.Record) { r.Copies = copies }))
		if right {
			s.does(get("c"))
		} else {
			s.refuses(get("c"), api.ErrCorrupt)
		}
	}
}
