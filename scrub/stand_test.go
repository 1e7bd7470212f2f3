package scrub

import (
	"bytes"
	"maps"
	"math/rand"
	"slices"
	"testing"

	"muniment/api"
	"muniment/catalog"
	"muniment/chunk"
	"muniment/coldvol"
	"muniment/hotlog"
	"muniment/plant"
	"muniment/record"
)

const (
	journal = api.DevJournal
	disk    = api.DevCatalogue
	hotDisk = api.DevHot
)

func ok(t *testing.T, e api.Errno) {
	t.Helper()
	if e != api.OK {
		t.Fatalf("answers %d", e)
	}
}

// stand is a plant with a catalogue, a hot disk and tapes, and a scrubber on them.
type stand struct {
	t        *testing.T
	p        *plant.Plant
	c        *catalog.Catalog
	h        *hotlog.Hot
	tapes    []*coldvol.Volume
	replicas int
	s        *Scrubber
}

func made(t *testing.T, replicas int, tapes ...int) *stand {
	t.Helper()
	p, e := plant.New(api.Shape{Disks: []int{64, 802, 96}, Tapes: tapes})
	ok(t, e)
	ok(t, catalog.Format(p, journal, disk))
	s := &stand{t: t, p: p, replicas: replicas}
	s.open()
	return s
}

// open opens all anew: what the records name is what is in use of the hot disk.
func (s *stand) open() {
	s.t.Helper()
	var e api.Errno
	s.c, e = catalog.Open(s.p, journal, disk)
	ok(s.t, e)
	s.tapes = nil
	for k := range s.p.Shape().Tapes {
		v, e := coldvol.Open(s.p, api.DevTape+k)
		ok(s.t, e)
		s.tapes = append(s.tapes, v)
	}
	var used []api.Place
	for _, r := range s.records() {
		for _, x := range r.Copies {
			if x.Dev == hotDisk && !r.Gone {
				used = append(used, x)
			}
		}
	}
	s.h, e = hotlog.Open(s.p, hotDisk, used)
	ok(s.t, e)
	s.again()
}

// again takes a new scrubber.
func (s *stand) again() { s.s = New(s.c, s.h, s.tapes, s.replicas) }

// boot is a crash, and what comes behind it.
func (s *stand) boot(keep ...int) {
	s.t.Helper()
	s.p.Boot(keep)
	s.open()
}

// hot writes bytes to the hot disk.
func (s *stand) hot(b []byte) api.Place {
	s.t.Helper()
	x, e := s.h.Append(b)
	ok(s.t, e)
	return x
}

// cold writes an object to a tape, for good.
func (s *stand) cold(tape int, id string, b []byte) api.Place {
	s.t.Helper()
	x, e := s.tapes[tape].Append(id, b)
	ok(s.t, e)
	ok(s.t, s.tapes[tape].Flush())
	return x
}

// put puts an object that has a right copy on each of these tapes.
func (s *stand) put(id string, b []byte, tapes ...int) {
	s.t.Helper()
	r := recordWith(id, b)
	for _, k := range tapes {
		r.Copies = append(r.Copies, s.cold(k, id, b))
	}
	s.set(r)
}

func recordWith(id string, b []byte, copies ...api.Place) api.Record {
	return api.Record{ID: id, Length: len(b), Root: chunk.Root(b), Copies: copies}
}

// lay sets a key's value in the catalogue.
func (s *stand) lay(key string, value []byte) {
	s.t.Helper()
	ok(s.t, s.c.Apply([]api.Change{{Key: []byte(key), Value: value}}))
}

func (s *stand) drop(key string) {
	s.t.Helper()
	ok(s.t, s.c.Apply([]api.Change{{Key: []byte(key), Gone: true}}))
}

func (s *stand) set(r api.Record) {
	s.t.Helper()
	value, e := record.Encode(r)
	ok(s.t, e)
	s.lay("o"+r.ID, value)
}

func (s *stand) record(id string) api.Record {
	s.t.Helper()
	value, _, e := s.c.Get([]byte("o" + id))
	ok(s.t, e)
	r, e := record.Decode(value)
	ok(s.t, e)
	return r
}

// pairs are all that the catalogue has.
func (s *stand) pairs() map[string]string {
	s.t.Helper()
	l, e := s.c.List(nil)
	ok(s.t, e)
	m := map[string]string{}
	for _, p := range l {
		m[string(p.Key)] = string(p.Value)
	}
	return m
}

// records are those that the catalogue has, by their ids.
func (s *stand) records() map[string]api.Record {
	s.t.Helper()
	m := map[string]api.Record{}
	for key, value := range s.pairs() {
		if r, e := record.Decode([]byte(value)); e == api.OK && key == "o"+r.ID {
			m[r.ID] = r
		}
	}
	return m
}

func (s *stand) lengths() []int {
	var l []int
	for k := range s.tapes {
		n, _ := s.p.Len(api.DevTape + k)
		l = append(l, n)
	}
	return l
}

// rightAt tells whether a place has a right copy of a record.
func (s *stand) rightAt(r api.Record, x api.Place) bool {
	k := x.Dev - api.DevTape
	switch {
	case x.Dev == hotDisk:
		b, e := s.h.Read(x)
		return e == api.OK && len(b) == r.Length && chunk.Root(b) == r.Root
	case k >= 0 && k < len(s.tapes):
		id, b, e := s.tapes[k].Read(x)
		return e == api.OK && id == r.ID && len(b) == r.Length && chunk.Root(b) == r.Root
	}
	return false
}

// named tells whether a record names a right copy that is not Bad.
func (s *stand) named(r api.Record) bool {
	return slices.ContainsFunc(r.Copies, func(x api.Place) bool { return !x.Bad && s.rightAt(r, x) })
}

// step does a step, and holds what is so of each one.
func (s *stand) step() (api.Work, api.Errno) {
	s.t.Helper()
	before, lengths, steps := s.pairs(), s.lengths(), s.p.Steps()
	w, e := s.s.Step()
	if !s.p.On() {
		if w != api.WorkNone || e != api.ErrPower {
			s.t.Fatalf("without power: %d, %d", w, e)
		}
		return w, e
	}
	turned := s.onlyCopiesChange(before)
	tape, grown := s.grown(lengths)
	switch {
	case e != api.OK && (w != api.WorkNone || turned != ""):
		s.t.Fatalf("work %d beside the error %d changed %q", w, e, turned)
	case e == api.OK && w != api.WorkScrub && w != api.WorkPass && w != api.WorkMend:
		s.t.Fatalf("work %d", w)
	case e == api.OK && w != api.WorkMend && s.p.Steps() != steps:
		s.t.Fatalf("work %d did %d steps", w, s.p.Steps()-steps)
	case w == api.WorkMend && s.p.Steps() == steps:
		s.t.Fatal("nothing was applied")
	}
	if turned != "" {
		s.isMended(recordIn(before, turned), tape, grown)
	}
	return w, e
}

// grown tells which tape has blocks that it had not, and how many. No other one has.
func (s *stand) grown(lengths []int) (tape, n int) {
	s.t.Helper()
	for k, length := range s.lengths() {
		if length == lengths[k] {
			continue
		}
		if n > 0 {
			s.t.Fatal("two tapes were written to")
		}
		tape, n = k, length-lengths[k]
	}
	return tape, n
}

func recordIn(pairs map[string]string, id string) api.Record {
	r, _ := record.Decode([]byte(pairs["o"+id]))
	return r
}

// onlyCopiesChange holds that one record at the most is not as it was, and that only in
// its Copies; it tells its id.
func (s *stand) onlyCopiesChange(before map[string]string) string {
	s.t.Helper()
	after := s.pairs()
	turned := ""
	for key, value := range after {
		if was, there := before[key]; there && was == value {
			continue
		}
		r, e := record.Decode([]byte(before[key]))
		now, e2 := record.Decode([]byte(value))
		r.Copies = now.Copies
		if e != api.OK || e2 != api.OK || turned != "" || r.Gone || !sameRecord(r, now) {
			s.t.Fatalf("%q was changed from %x to %x", key, before[key], value)
		}
		turned = now.ID
	}
	if len(after) != len(before) {
		s.t.Fatal("a key was taken away")
	}
	return turned
}

func sameRecord(a, b api.Record) bool {
	x, e := record.Encode(a)
	y, f := record.Encode(b)
	return e == api.OK && f == api.OK && bytes.Equal(x, y)
}

// isMended holds that a record that was changed has what it had, in its order, Bad or as
// it was, and behind that one copy at the most, which is right, and for good; that nothing
// that is not Bad is wrong; and that what had been Bad stays so.
func (s *stand) isMended(was api.Record, tape, grown int) {
	s.t.Helper()
	now := s.record(was.ID)
	old := now.Copies
	if grown > 0 && len(old) > 0 {
		x := old[len(old)-1]
		if x.Dev == api.DevTape+tape && x.At+x.Len == s.lengths()[tape] && x.Len == grown && !x.Bad {
			old = old[:len(old)-1]
		}
	}
	if n := len(old); n == api.MaxCopies-1 && len(was.Copies) == api.MaxCopies && len(now.Copies) > n {
		i := slices.IndexFunc(was.Copies, func(x api.Place) bool { return x.Bad || !s.rightAt(was, x) })
		if i < 0 {
			s.t.Fatalf("one that is not Bad was forgotten: %v, %v", was.Copies, now.Copies)
		}
		was.Copies = slices.Delete(slices.Clone(was.Copies), i, i+1)
	}
	if len(old) != len(was.Copies) {
		s.t.Fatalf("from %v to %v", was.Copies, now.Copies)
	}
	for i, x := range was.Copies {
		x.Bad = x.Bad || !s.rightAt(was, x)
		if old[i] != x {
			s.t.Fatalf("from %v to %v", was.Copies, now.Copies)
		}
	}
	s.isForGood(now)
}

// isForGood holds that behind a crash that keeps nothing a record is as it is now, and so
// is what it names.
func (s *stand) isForGood(r api.Record) {
	s.t.Helper()
	crashed := &stand{t: s.t, p: s.p.Clone(), replicas: s.replicas}
	crashed.p.Boot(nil)
	c, e := catalog.Open(crashed.p, journal, disk)
	ok(s.t, e)
	crashed.c = c
	if now, is := crashed.records()[r.ID]; !is || !sameRecord(r, now) {
		s.t.Fatalf("%q is not changed for good", r.ID)
	}
	for k := range s.tapes {
		v, e := coldvol.Open(crashed.p, api.DevTape+k)
		ok(s.t, e)
		crashed.tapes = append(crashed.tapes, v)
	}
	for _, x := range r.Copies {
		if x.Dev >= api.DevTape && !x.Bad && !crashed.rightAt(r, x) {
			s.t.Fatalf("%q names what is not there for good: %v", r.ID, x)
		}
	}
}

// works does steps that must be these.
func (s *stand) works(want ...api.Work) {
	s.t.Helper()
	for i, w := range want {
		if got, e := s.step(); got != w || e != api.OK {
			s.t.Fatalf("step %d: %d, %d; want %d", i, got, e, w)
		}
	}
}

// fails does a step that must answer this error.
func (s *stand) fails(want api.Errno) {
	s.t.Helper()
	if w, e := s.step(); w != api.WorkNone || e != want {
		s.t.Fatalf("%d, %d; want the error %d", w, e, want)
	}
}

// pass goes on to the end of a pass. It tells how often something was mended.
func (s *stand) pass() int {
	s.t.Helper()
	mended := 0
	for {
		w, e := s.step()
		ok(s.t, e)
		switch w {
		case api.WorkPass:
			return mended
		case api.WorkMend:
			mended++
		}
	}
}

func (s *stand) copiesAre(id string, want ...api.Place) {
	s.t.Helper()
	if r := s.record(id); !slices.Equal(r.Copies, want) {
		s.t.Fatalf("Copies of %q: %v; want %v", id, r.Copies, want)
	}
}

func (s *stand) lengthsAre(want ...int) {
	s.t.Helper()
	if l := s.lengths(); !slices.Equal(l, want) {
		s.t.Fatalf("the tapes have %v blocks; want %v", l, want)
	}
}

// rightAre holds how many right copies on tape an object has.
func (s *stand) rightAre(id string, want int) {
	s.t.Helper()
	if n := s.s.Right(s.record(id)); n != want {
		s.t.Fatalf("%q has %d right copies on tape; want %d: %v", id, n, want, s.record(id).Copies)
	}
}

// nothingChanges holds that something changes nothing of the catalogue, and asks the plant
// for no step.
func (s *stand) nothingChanges(what func()) {
	s.t.Helper()
	before, steps := s.pairs(), s.p.Steps()
	what()
	if !maps.Equal(s.pairs(), before) || s.p.Steps() != steps {
		s.t.Fatal("something was changed")
	}
}

// turn turns one byte of a place, so that it is not right any more.
func (s *stand) turn(x api.Place) {
	s.t.Helper()
	if !s.p.Rot(x.Dev, x.At, 20, 255) {
		s.t.Fatal("it did not rot")
	}
}

func place(dev, at, n int) api.Place { return api.Place{Dev: dev, At: at, Len: n} }

func bad(dev, at, n int) api.Place { return api.Place{Dev: dev, At: at, Len: n, Bad: true} }

// asBad is a place that is Bad.
func asBad(x api.Place) api.Place {
	x.Bad = true
	return x
}

func someBytes(r *rand.Rand, n int) []byte {
	b := make([]byte, n)
	r.Read(b)
	return b
}

func ones(n int) []byte { return bytes.Repeat([]byte{1}, n) }

// faulty is a catalogue that answers errors where it is told to.
type faulty struct {
	catalogue
	list, apply api.Errno
}

func (f *faulty) List(prefix []byte) ([]api.Pair, api.Errno) {
	if f.list != api.OK {
		return nil, f.list
	}
	return f.catalogue.List(prefix)
}

func (f *faulty) Apply(l []api.Change) api.Errno {
	if f.apply != api.OK {
		return f.apply
	}
	return f.catalogue.Apply(l)
}

// faults makes the scrubber's catalogue one that can be told to answer errors.
func (s *stand) faults() *faulty {
	f := &faulty{catalogue: s.s.c}
	s.s.c = f
	return f
}

// spy is a tape that tells what is done with it, and at which something may be done behind
// a flush.
type spy struct {
	volume
	did     *[]string
	flushed func()
	append  api.Errno // what is answered, if it is not OK
	read    api.Errno
}

func (v *spy) Append(id string, b []byte) (api.Place, api.Errno) {
	*v.did = append(*v.did, "append "+id)
	if v.append != api.OK {
		return api.Place{}, v.append
	}
	return v.volume.Append(id, b)
}

func (v *spy) Flush() api.Errno {
	*v.did = append(*v.did, "flush")
	e := v.volume.Flush()
	if v.flushed != nil {
		v.flushed()
	}
	return e
}

func (v *spy) Read(x api.Place) (string, []byte, api.Errno) {
	if v.read != api.OK {
		return "", nil, v.read
	}
	id, b, e := v.volume.Read(x)
	if e == api.OK {
		*v.did = append(*v.did, "read "+id)
	}
	return id, b, e
}

// spies makes the scrubber's tapes tell what is done with them, all in one row.
func (s *stand) spies() (*[]string, []*spy) {
	var did []string
	var l []*spy
	for k, v := range s.s.tapes {
		l = append(l, &spy{volume: v, did: &did})
		s.s.tapes[k] = l[k]
	}
	return &did, l
}
