package scrub

import (
	"bytes"
	"maps"
	"math/rand"
	"slices"
	"testing"

	"muniment/api"
	"muniment/chunk"
	"muniment/record"
)

// plainCopy is an object on a device: whose, and its bytes; or what rotted of it.
type plainCopy struct {
	id     string
	bytes  []byte
	rotten bool
}

func (o *plainCopy) isOf(r api.Record) bool {
	return o != nil && !o.rotten && len(o.bytes) == r.Length && chunk.Root(o.bytes) == r.Root
}

// plainTape is a tape without blocks: it knows where its objects begin.
type plainTape struct {
	size, length int
	sealed       bool
	objects      map[int]*plainCopy
}

func (v *plainTape) room() int {
	if v.sealed {
		return 0
	}
	return max(0, v.size-v.length-2)
}

func (v *plainTape) append(id string, b []byte) *plainCopy {
	o := &plainCopy{id: id, bytes: b}
	v.objects[v.length] = o
	v.length += blocks(b)
	return o
}

func blocks(b []byte) int { return 2 + (len(b)+55)/56 }

func sectors(b []byte) int { return 1 + (len(b)+63)/64 }

// plain is a scrubber as the chapter's words have it, on devices that are not there.
type plain struct {
	records  map[string]api.Record
	hot      map[int]*plainCopy // what is in use, by where it begins
	tapes    []*plainTape
	replicas int
	last     string
	fault    faulty // the errors that the catalogue answers
	spoils   bool   // whether the next copy that is written rots at once
}

// tape is the one of a place; nil, if there is none.
func (m *plain) tape(x api.Place) *plainTape {
	if x.Dev < 3 || x.Dev >= 3+len(m.tapes) {
		return nil
	}
	return m.tapes[x.Dev-3]
}

// copyAt is the right copy of a record at a place; nil, if there is none.
func (m *plain) copyAt(r api.Record, x api.Place) *plainCopy {
	if x.Dev == 2 {
		if o := m.hot[x.At]; o.isOf(r) && x.Len == sectors(o.bytes) {
			return o
		}
		return nil
	}
	if v := m.tape(x); v != nil {
		if o := v.objects[x.At]; o.isOf(r) && o.id == r.ID && x.Len == blocks(o.bytes) {
			return o
		}
	}
	return nil
}

// right is P17.2.
func (m *plain) right(r api.Record) int {
	var tapes []int
	for _, x := range r.Copies {
		if x.Dev != 2 && !x.Bad && m.copyAt(r, x) != nil && !slices.Contains(tapes, x.Dev) {
			tapes = append(tapes, x.Dev)
		}
	}
	return len(tapes)
}

// next is the id of the record that is looked at; empty, if the pass is done.
func (m *plain) next() string {
	next := ""
	for id, r := range m.records {
		if !r.Gone && id > m.last && (next == "" || id < next) {
			next = id
		}
	}
	return next
}

// step is P17.3, sentence by sentence.
func (m *plain) step() (api.Work, api.Errno) {
	if m.fault.list != api.OK {
		return 0, m.fault.list
	}
	id := m.next()
	if id == "" {
		m.last = ""
		return api.WorkPass, api.OK
	}
	r := m.records[id]
	r.Copies = slices.Clone(r.Copies)
	work := api.WorkScrub
	for i, x := range r.Copies {
		if !x.Bad && m.copyAt(r, x) == nil {
			r.Copies[i].Bad = true
			work = api.WorkMend
		}
	}
	if m.writes(&r) {
		work = api.WorkMend
	}
	if work == api.WorkMend && m.fault.apply != api.OK {
		return 0, m.fault.apply
	}
	m.records[id] = r
	m.last = id
	return work, api.OK
}

// writes writes one more copy, if one is wanted, and can be named.
func (m *plain) writes(r *api.Record) bool {
	firstBad := -1
	for i, x := range r.Copies {
		switch {
		case x.Bad && firstBad < 0:
			firstBad = i
		case !x.Bad && x.Dev == 2:
			return false
		}
	}
	n := m.right(*r)
	if n < 1 || n >= m.replicas || len(r.Copies) == 8 && firstBad < 0 {
		return false
	}
	for k, v := range m.tapes {
		has := slices.ContainsFunc(r.Copies, func(x api.Place) bool { return x.Dev == 3+k && !x.Bad })
		if has || v.room() < 2+(r.Length+55)/56 {
			continue
		}
		x := api.Place{Dev: 3 + k, At: v.length}
		b := m.bytesOf(*r)
		x.Len = blocks(b)
		o := v.append(r.ID, b)
		if m.spoils {
			o.rotten, m.spoils = true, false
			return true
		}
		if len(r.Copies) == 8 {
			r.Copies = slices.Delete(r.Copies, firstBad, firstBad+1)
		}
		r.Copies = append(r.Copies, x)
		return true
	}
	return false
}

// bytesOf are those of a record's right copies on tape.
func (m *plain) bytesOf(r api.Record) []byte {
	for _, x := range r.Copies {
		if o := m.copyAt(r, x); !x.Bad && o != nil {
			return o.bytes
		}
	}
	return nil
}

// world is a stand, and the plain scrubber that it is held against.
type world struct {
	*stand
	*plain
	r     *rand.Rand
	f     *faulty
	spoil bool              // whether the next copy that the scrubber writes rots at once
	other map[string]string // what the catalogue has beside records
	works map[api.Work]int
}

func newWorld(t *testing.T, seed int64) *world {
	t.Helper()
	r := rand.New(rand.NewSource(seed))
	replicas := []int{-3, 0, 1, 2, 2, 2, 3, 3, 4, 7}[r.Intn(10)]
	sizes := make([]int, r.Intn(7))
	for i := range sizes {
		sizes[i] = 20 + r.Intn(200)
	}
	w := &world{stand: made(t, replicas, sizes...), r: r, other: map[string]string{}, works: map[api.Work]int{}}
	w.plain = &plain{records: map[string]api.Record{}, hot: map[int]*plainCopy{}, replicas: replicas}
	for _, n := range sizes {
		w.plain.tapes = append(w.plain.tapes, &plainTape{size: n, objects: map[int]*plainCopy{}})
	}
	w.anew()
	return w
}

// anew takes a new scrubber of both.
func (w *world) anew() {
	w.again()
	w.f = w.faults()
	w.plain.last, w.plain.fault = "", faulty{}
	_, spies := w.spies()
	for k, v := range spies {
		v.flushed = func() {
			if w.spoil {
				w.turn(place(3+k, w.lengths()[k]-1, 1))
				w.spoil = false
			}
		}
	}
}

// sets makes a record be there.
func (w *world) sets(r api.Record) {
	w.t.Helper()
	w.set(r)
	delete(w.other, "o"+r.ID)
	w.plain.records[r.ID] = r
}

// writesHot writes bytes to the hot disk, if there is room.
func (w *world) writesHot(b []byte) (api.Place, bool) {
	x, e := w.h.Append(b)
	if e == api.OK {
		w.plain.hot[x.At] = &plainCopy{bytes: b}
	}
	return x, e == api.OK
}

// writesTape writes an object to some tape, if there is room.
func (w *world) writesTape(id string, b []byte) (api.Place, bool) {
	if len(w.plain.tapes) == 0 {
		return api.Place{}, false
	}
	k := w.r.Intn(len(w.plain.tapes))
	x, e := w.stand.tapes[k].Append(id, b)
	if e == api.OK {
		w.plain.tapes[k].append(id, b)
		ok(w.t, w.stand.tapes[k].Flush())
	}
	return x, e == api.OK
}

// puts puts an object that is there in one, or in some, of all ways that may be.
func (w *world) puts() {
	w.t.Helper()
	id := someID(w.r)
	b := someBytes(w.r, []int{0, 1, 56, 57, w.r.Intn(150), w.r.Intn(300)}[w.r.Intn(6)])
	r := recordWith(id, b)
	r.Index, r.Expiry, r.Hold, r.Gone = w.r.Intn(9), w.r.Intn(99), w.r.Intn(2) == 0, w.r.Intn(12) == 0
	for range w.r.Intn(9) {
		if x, is := w.somePlace(id, b); is {
			x.Bad = w.r.Intn(4) == 0
			r.Copies = append(r.Copies, x)
		}
	}
	switch w.r.Intn(20) {
	case 0:
		r.Length = (r.Length + 1) % 513
	case 1:
		r.Root[w.r.Intn(32)] ^= 1
	}
	w.sets(r)
}

// somePlace is one that a record of this object may name.
func (w *world) somePlace(id string, b []byte) (api.Place, bool) {
	switch n := w.r.Intn(20); {
	case n < 10:
		return w.writesTape(id, b)
	case n == 10:
		return w.writesTape(id, b[:w.r.Intn(len(b)+1)])
	case n == 11:
		return w.writesTape(someID(w.r), b)
	case n == 12:
		return w.writesHot(b)
	case n == 13:
		return w.writesHot(b[:w.r.Intn(len(b)+1)])
	case n < 16: // where something begins, perhaps
		x, is := w.writesTape(id, b)
		x.At += w.r.Intn(2)
		x.Len += w.r.Intn(3) - 1
		return x, is
	}
	return api.Place{Dev: w.r.Intn(12), At: w.r.Intn(200), Len: w.r.Intn(14)}, true
}

// changes changes a record that is there.
func (w *world) changes() {
	w.t.Helper()
	id := someID(w.r)
	r, is := w.plain.records[id]
	if !is {
		return
	}
	r.Copies = slices.Clone(r.Copies)
	switch n := w.r.Intn(12); {
	case n == 0:
		r.Gone = !r.Gone
	case n < 3:
		r.Expiry += 5
	case n < 5:
		r.Hold = !r.Hold
	case n < 7 && len(r.Copies) > 0:
		i := w.r.Intn(len(r.Copies))
		r.Copies[i].Bad = !r.Copies[i].Bad
	case n < 9 && len(r.Copies) > 0 && len(r.Copies) < api.MaxCopies: // one that is named twice
		r.Copies = append(r.Copies, r.Copies[w.r.Intn(len(r.Copies))])
	case n == 9:
		w.other["o"+id] = "?"
		w.lay("o"+id, []byte("?"))
		delete(w.plain.records, id)
		return
	case n == 10:
		delete(w.other, "o"+id)
		w.drop("o" + id)
		delete(w.plain.records, id)
		return
	}
	w.sets(r)
}

// seals seals a tape.
func (w *world) seals() {
	if len(w.plain.tapes) == 0 {
		return
	}
	k := w.r.Intn(len(w.plain.tapes))
	if m := w.plain.tapes[k]; w.stand.tapes[k].Seal() == api.OK {
		m.sealed, m.length = true, m.length+2
	}
}

// rots turns a byte, and takes down whether what stands there is read still.
func (w *world) rots() {
	w.t.Helper()
	if at, is := someKey(w.r, w.plain.hot); is && w.r.Intn(3) > 0 {
		o := w.plain.hot[at]
		w.p.Rot(hotDisk, at, w.r.Intn(64), 1<<w.r.Intn(8))
		b, e := w.h.Read(place(hotDisk, at, sectors(o.bytes)))
		o.rotten = e != api.OK || !bytes.Equal(b, o.bytes)
	}
	for k, m := range w.plain.tapes {
		at, is := someKey(w.r, m.objects)
		if !is || w.r.Intn(2) == 0 {
			continue
		}
		o := m.objects[at]
		w.p.Rot(3+k, at+w.r.Intn(blocks(o.bytes)), w.r.Intn(64), 1<<w.r.Intn(8))
		_, b, e := w.stand.tapes[k].Read(place(3+k, at, blocks(o.bytes)))
		o.rotten = e != api.OK || !bytes.Equal(b, o.bytes)
	}
}

func someKey(r *rand.Rand, m map[int]*plainCopy) (int, bool) {
	if len(m) == 0 {
		return 0, false
	}
	return slices.Sorted(maps.Keys(m))[r.Intn(len(m))], true
}

// frees gives a place of the hot disk up.
func (w *world) frees() {
	w.t.Helper()
	if at, is := someKey(w.r, w.plain.hot); is {
		ok(w.t, w.h.Free(place(hotDisk, at, sectors(w.plain.hot[at].bytes))))
		delete(w.plain.hot, at)
	}
}

// someFaults makes the catalogue answer errors, or none, from then on.
func (w *world) someFaults() {
	some := func() api.Errno {
		return []api.Errno{api.OK, api.OK, api.OK, api.ErrCorrupt, api.ErrFull}[w.r.Intn(5)]
	}
	w.f.list, w.f.apply = some(), some()
	w.plain.fault = *w.f
}

// spoilsNext makes the next copy that is written rot ahead of its being read back.
func (w *world) spoilsNext() { w.spoil, w.plain.spoils = true, true }

// both does a step of both, and holds that they are alike.
func (w *world) both() {
	w.t.Helper()
	want, e := w.plain.step()
	got, f := w.stand.step()
	if got != want || f != e {
		w.t.Fatalf("%d, %d; want %d, %d", got, f, want, e)
	}
	w.works[got]++
	w.look()
}

// look holds that catalogue, hot disk and tapes are as those of the plain scrubber, and
// that both count alike.
func (w *world) look() {
	w.t.Helper()
	want := maps.Clone(w.other)
	for id, r := range w.plain.records {
		b, e := record.Encode(r)
		ok(w.t, e)
		want["o"+id] = string(b)
		if n := w.s.Right(r); n != w.plain.right(r) {
			w.t.Fatalf("%d right copies; want %d: %v", n, w.plain.right(r), r)
		}
	}
	if !maps.Equal(w.pairs(), want) {
		w.t.Fatalf("the records are %v; want %v", w.stand.records(), w.plain.records)
	}
	for at, o := range w.plain.hot {
		if b, e := w.h.Read(place(hotDisk, at, sectors(o.bytes))); e == api.ErrPlace || !o.rotten && !bytes.Equal(b, o.bytes) {
			w.t.Fatalf("the place %d of the hot disk: %d; want %v", at, e, o)
		}
	}
	for k, m := range w.plain.tapes {
		if n := w.lengths()[k]; n != m.length {
			w.t.Fatalf("the tape %d has %d blocks; want %d", k, n, m.length)
		}
		for at, o := range m.objects {
			id, b, e := w.stand.tapes[k].Read(place(3+k, at, blocks(o.bytes)))
			if !o.rotten && (id != o.id || !bytes.Equal(b, o.bytes) || e != api.OK) {
				w.t.Fatalf("the tape %d at %d: %q, %d; want %q", k, at, id, e, o.id)
			}
		}
	}
}

// TestAnyEvents: a scrubber beside the plain one, with all that may happen between steps.
func TestAnyEvents(t *testing.T) { // P17.1, P17.2, P17.3, P17.4, P17.6
	works := map[api.Work]int{}
	for seed := range int64(900) {
		w := newWorld(t, seed)
		for range 60 {
			switch n := w.r.Intn(100); {
			case n < 15:
				w.puts()
			case n < 25:
				w.changes()
			case n < 27:
				w.seals()
			case n < 35:
				w.rots()
			case n < 37:
				w.frees()
			case n < 40:
				w.someFaults()
			case n == 40:
				w.anew()
			case n == 41:
				ok(t, w.c.Checkpoint())
			case n < 45:
				w.spoilsNext()
			default:
				w.both()
			}
		}
		for k, n := range w.works {
			works[k] += n
		}
	}
	if works[api.WorkMend] < 3000 || works[api.WorkScrub] < 3000 || works[api.WorkPass] < 1000 || works[api.WorkNone] < 1000 {
		t.Errorf("too little was done: %v", works)
	}
}
