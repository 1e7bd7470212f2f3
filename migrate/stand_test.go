package migrate

import (
	"bytes"
	"math/rand"
	"slices"
	"testing"

	"muniment/api"
	"muniment/catalog"
	"muniment/chunk"
	"muniment/coldvol"
	"muniment/hotlog"
	"muniment/plant"
	"muniment/record"
)

const (
	journal = api.DevJournal
	disk    = api.DevCatalogue
	hotDisk = api.DevHot
)

func ok(t *testing.T, e api.Errno) {
	t.Helper()
	if e != api.OK {
		t.Fatalf("answers %d", e)
	}
}

// stand is a plant with a catalogue, a hot disk and tapes, and an engine on them.
type stand struct {
	t        *testing.T
	p        *plant.Plant
	c        *catalog.Catalog
	h        *hotlog.Hot
	tapes    []*coldvol.Volume
	replicas int
	g        *Engine
}

func made(t *testing.T, replicas int, tapes ...int) *stand {
	t.Helper()
	p, e := plant.New(api.Shape{Disks: []int{64, 802, 96}, Tapes: tapes})
	ok(t, e)
	ok(t, catalog.Format(p, journal, disk))
	s := &stand{t: t, p: p, replicas: replicas}
	s.open()
	return s
}

// open opens all anew: what the records name is what is in use of the hot disk.
func (s *stand) open() {
	s.t.Helper()
	s.openCold()
	var used []api.Place
	for _, r := range s.records() {
		for _, x := range r.Copies {
			if x.Dev == hotDisk && !r.Gone {
				used = append(used, x)
			}
		}
	}
	var e api.Errno
	s.h, e = hotlog.Open(s.p, hotDisk, used)
	ok(s.t, e)
	s.again()
}

// openCold opens the catalogue and the tapes anew.
func (s *stand) openCold() {
	s.t.Helper()
	var e api.Errno
	s.c, e = catalog.Open(s.p, journal, disk)
	ok(s.t, e)
	s.tapes = nil
	for k := range s.p.Shape().Tapes {
		v, e := coldvol.Open(s.p, api.DevTape+k)
		ok(s.t, e)
		s.tapes = append(s.tapes, v)
	}
}

// again takes a new engine.
func (s *stand) again() { s.g = New(s.c, s.h, s.tapes, s.replicas) }

// boot is a crash, and what comes behind it.
func (s *stand) boot(keep ...int) {
	s.t.Helper()
	s.p.Boot(keep)
	s.open()
}

// hot writes bytes to the hot disk.
func (s *stand) hot(b []byte) api.Place {
	s.t.Helper()
	x, e := s.h.Append(b)
	ok(s.t, e)
	return x
}

// cold writes an object to a tape.
func (s *stand) cold(tape int, id string, b []byte) api.Place {
	s.t.Helper()
	x, e := s.tapes[tape].Append(id, b)
	ok(s.t, e)
	return x
}

// put puts an object that waits.
func (s *stand) put(id string, b []byte) {
	s.t.Helper()
	s.set(recordOf(id, b, s.hot(b)))
}

func recordOf(id string, b []byte, copies ...api.Place) api.Record {
	return api.Record{ID: id, Length: len(b), Root: chunk.Root(b), Copies: copies}
}

// lay sets a key's value in the catalogue.
func (s *stand) lay(key string, value []byte) {
	s.t.Helper()
	ok(s.t, s.c.Apply([]api.Change{{Key: []byte(key), Value: value}}))
}

func (s *stand) set(r api.Record) {
	s.t.Helper()
	value, e := record.Encode(r)
	ok(s.t, e)
	s.lay("o"+r.ID, value)
}

// change changes a record.
func (s *stand) change(id string, how func(r *api.Record)) {
	s.t.Helper()
	r := s.record(id)
	how(&r)
	s.set(r)
}

func (s *stand) record(id string) api.Record {
	s.t.Helper()
	value, _, e := s.c.Get([]byte("o" + id))
	ok(s.t, e)
	r, e := record.Decode(value)
	ok(s.t, e)
	return r
}

// pairs are all that the catalogue has.
func (s *stand) pairs() map[string]string {
	s.t.Helper()
	l, e := s.c.List(nil)
	ok(s.t, e)
	m := map[string]string{}
	for _, p := range l {
		m[string(p.Key)] = string(p.Value)
	}
	return m
}

// records are those that the catalogue has, by their ids.
func (s *stand) records() map[string]api.Record {
	s.t.Helper()
	m := map[string]api.Record{}
	for key, value := range s.pairs() {
		if r, e := record.Decode([]byte(value)); e == api.OK && key == "o"+r.ID {
			m[r.ID] = r
		}
	}
	return m
}

func (s *stand) lengths() []int {
	var l []int
	for k := range s.tapes {
		n, _ := s.p.Len(api.DevTape + k)
		l = append(l, n)
	}
	return l
}

// rightAt tells whether a place has a right copy of a record.
func (s *stand) rightAt(r api.Record, x api.Place) bool {
	k := x.Dev - api.DevTape
	switch {
	case x.Dev == hotDisk:
		b, e := s.h.Read(x)
		return e == api.OK && len(b) == r.Length && chunk.Root(b) == r.Root
	case k >= 0 && k < len(s.tapes):
		id, b, e := s.tapes[k].Read(x)
		return e == api.OK && id == r.ID && len(b) == r.Length && chunk.Root(b) == r.Root
	}
	return false
}

// named tells whether a record names a right copy.
func (s *stand) named(r api.Record) bool {
	return slices.ContainsFunc(r.Copies, func(x api.Place) bool { return !x.Bad && s.rightAt(r, x) })
}

// step does a step, and holds what is so of each one.
func (s *stand) step() (api.Work, api.Errno) {
	s.t.Helper()
	before, lengths, steps := s.pairs(), s.lengths(), s.p.Steps()
	w, e := s.g.Step()
	if !s.p.On() {
		if w != api.WorkNone || e != api.ErrPower {
			s.t.Fatalf("without power: %d, %d", w, e)
		}
		return w, e
	}
	turned := s.onlyCopiesChange(before)
	grown := 0
	for k, n := range s.lengths() {
		grown += n - lengths[k]
	}
	done := s.p.Steps() - steps
	switch {
	case e != api.OK && w != api.WorkNone:
		s.t.Fatalf("work %d beside the error %d", w, e)
	case w == api.WorkSwitch && (turned == "" || grown != 0):
		s.t.Fatalf("a switch changed %q, and wrote %d blocks", turned, grown)
	case w != api.WorkSwitch && turned != "":
		s.t.Fatalf("work %d, %d changed %q", w, e, turned)
	case w == api.WorkCopy && (grown < 2 || done != grown):
		s.t.Fatalf("a copy wrote %d blocks by %d steps", grown, done)
	case w != api.WorkCopy && grown != 0:
		s.t.Fatalf("work %d, %d wrote %d blocks", w, e, grown)
	}
	if turned != "" {
		s.isBrought(turned)
	}
	return w, e
}

// onlyCopiesChange holds that one record at the most is not as it was, and that only in
// its Copies; it tells its id.
func (s *stand) onlyCopiesChange(before map[string]string) string {
	s.t.Helper()
	after := s.pairs()
	turned := ""
	for key, value := range after {
		if was, there := before[key]; there && was == value {
			continue
		}
		r, e := record.Decode([]byte(before[key]))
		now, e2 := record.Decode([]byte(value))
		r.Copies = now.Copies
		if e != api.OK || e2 != api.OK || turned != "" || !sameRecord(r, now) {
			s.t.Fatalf("%q was changed from %x to %x", key, before[key], value)
		}
		turned = now.ID
	}
	if len(after) != len(before) {
		s.t.Fatal("a key was taken away")
	}
	return turned
}

func sameRecord(a, b api.Record) bool {
	x, e := record.Encode(a)
	y, f := record.Encode(b)
	return e == api.OK && f == api.OK && bytes.Equal(x, y)
}

// isBrought holds that a record names right copies on tapes of their own, for good, behind
// what else it names, and none on the hot disk.
func (s *stand) isBrought(id string) {
	s.t.Helper()
	r, want := s.record(id), max(1, s.replicas)
	crashed := &stand{t: s.t, p: s.p.Clone()}
	crashed.p.Boot(nil)
	crashed.openCold()
	if now, is := crashed.records()[id]; !is || !sameRecord(r, now) {
		s.t.Fatalf("%q is not turned for good", id)
	}
	tapes := map[int]int{}
	for i, x := range r.Copies {
		if x.Dev == hotDisk {
			s.t.Fatalf("%q still names the hot disk: %v", id, r.Copies)
		}
		if i < len(r.Copies)-want {
			continue
		}
		tapes[x.Dev]++
		if x.Bad || !s.rightAt(r, x) || !crashed.rightAt(r, x) {
			s.t.Fatalf("%q names a copy that is not right: %v", id, x)
		}
	}
	if len(tapes) != want {
		s.t.Fatalf("%q is on the tapes %v; want %d", id, tapes, want)
	}
}

// works does steps that must be these.
func (s *stand) works(want ...api.Work) {
	s.t.Helper()
	for i, w := range want {
		if got, e := s.step(); got != w || e != api.OK {
			s.t.Fatalf("step %d: %d, %d; want %d", i, got, e, w)
		}
	}
}

// fails does a step that must answer this error.
func (s *stand) fails(want api.Errno) {
	s.t.Helper()
	if w, e := s.step(); w != api.WorkNone || e != want {
		s.t.Fatalf("%d, %d; want the error %d", w, e, want)
	}
}

// The works of an object that is brought to one tape, and to two.
var (
	toOne = []api.Work{api.WorkCopy, api.WorkSwitch}
	toTwo = []api.Work{api.WorkCopy, api.WorkCopy, api.WorkSwitch}
)

func (s *stand) copiesAre(id string, want ...api.Place) {
	s.t.Helper()
	if r := s.record(id); !slices.Equal(r.Copies, want) {
		s.t.Fatalf("Copies of %q: %v; want %v", id, r.Copies, want)
	}
}

func (s *stand) lengthsAre(want ...int) {
	s.t.Helper()
	if l := s.lengths(); !slices.Equal(l, want) {
		s.t.Fatalf("the tapes have %v blocks; want %v", l, want)
	}
}

// isFree holds that a place of the hot disk is not in use.
func (s *stand) isFree(x api.Place) {
	s.t.Helper()
	if _, e := s.h.Read(x); e != api.ErrPlace {
		s.t.Fatalf("%v is in use: %d", x, e)
	}
}

// stays holds that a place of the hot disk is in use.
func (s *stand) stays(x api.Place) {
	s.t.Helper()
	if _, e := s.h.Read(x); e == api.ErrPlace {
		s.t.Fatalf("%v is not in use", x)
	}
}

func place(dev, at, n int) api.Place { return api.Place{Dev: dev, At: at, Len: n} }

func bad(dev, at, n int) api.Place { return api.Place{Dev: dev, At: at, Len: n, Bad: true} }

func someBytes(r *rand.Rand, n int) []byte {
	b := make([]byte, n)
	r.Read(b)
	return b
}

func ones(n int) []byte { return bytes.Repeat([]byte{1}, n) }

// faulty is a catalogue that answers errors where it is told to.
type faulty struct {
	catalogue
	get, list, apply api.Errno
}

func (f *faulty) Get(key []byte) ([]byte, bool, api.Errno) {
	if f.get != api.OK {
		return nil, false, f.get
	}
	return f.catalogue.Get(key)
}

func (f *faulty) List(prefix []byte) ([]api.Pair, api.Errno) {
	if f.list != api.OK {
		return nil, f.list
	}
	return f.catalogue.List(prefix)
}

func (f *faulty) Apply(l []api.Change) api.Errno {
	if f.apply != api.OK {
		return f.apply
	}
	return f.catalogue.Apply(l)
}

// faults makes the engine's catalogue one that can be told to answer errors.
func (s *stand) faults() *faulty {
	f := &faulty{catalogue: s.g.c}
	s.g.c = f
	return f
}
