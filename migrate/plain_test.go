package migrate

import (
	"bytes"
	"maps"
	"math/rand"
	"slices"
	"testing"

	"muniment/api"
	"muniment/chunk"
	"muniment/record"
)

// plainCopy is an object on a device: whose, and its bytes; or what rotted of it.
type plainCopy struct {
	id     string
	bytes  []byte
	rotten bool
}

func (o *plainCopy) isOf(r api.Record) bool {
	return o != nil && !o.rotten && len(o.bytes) == r.Length && chunk.Root(o.bytes) == r.Root
}

// plainTape is a tape without blocks: it knows where its objects begin.
type plainTape struct {
	size, length int
	sealed       bool
	objects      map[int]*plainCopy
}

func (v *plainTape) room() int {
	if v.sealed {
		return 0
	}
	return max(0, v.size-v.length-2)
}

func (v *plainTape) append(id string, b []byte) int {
	at := v.length
	v.objects[at] = &plainCopy{id: id, bytes: b}
	v.length += blocks(b)
	return at
}

func blocks(b []byte) int { return 2 + (len(b)+55)/56 }

// plainHand is what is at hand, as the chapter has it.
type plainHand struct {
	last   string
	is     bool
	copies []api.Place
}

// plain is an engine as the chapter's words have it, on devices that are not there.
type plain struct {
	records  map[string]api.Record
	hot      map[int]*plainCopy // what is in use, by where it begins
	tapes    []*plainTape
	replicas int
	hand     plainHand
	fault    faulty // the errors that the catalogue answers
}

// hotCopy is the first place of a record that is right and not Bad.
func (m *plain) hotCopy(r api.Record) *plainCopy {
	if r.Gone {
		return nil
	}
	for _, x := range r.Copies {
		if o := m.hot[x.At]; x.Dev == 2 && !x.Bad && o.isOf(r) && x.Len == 1+(len(o.bytes)+63)/64 {
			return o
		}
	}
	return nil
}

// open are the tapes that are open to a record.
func (m *plain) open(r api.Record) []int {
	var l []int
	for k, v := range m.tapes {
		named := false
		for _, x := range r.Copies {
			named = named || x.Dev == 3+k
		}
		if !named && v.room() >= 2+(r.Length+55)/56 {
			l = append(l, k)
		}
	}
	return l
}

// step is P16.2, sentence by sentence.
func (m *plain) step() (api.Work, api.Errno) {
	was := m.hand
	if m.hand.is {
		if m.fault.get != api.OK {
			return 0, m.fault.get
		}
		if m.hotCopy(m.records[m.hand.last]) == nil {
			m.hand = plainHand{last: m.hand.last}
		}
	}
	if !m.hand.is {
		if m.fault.list != api.OK {
			m.hand = was
			return 0, m.fault.list
		}
		id := m.next()
		if id == "" {
			return api.WorkNone, api.OK
		}
		m.hand = plainHand{last: id, is: true}
	}
	if len(m.hand.copies) < m.replicas {
		return m.copy(m.records[m.hand.last]), api.OK
	}
	return m.turn(m.records[m.hand.last])
}

// next is the id that comes to hand.
func (m *plain) next() string {
	least, above := "", ""
	for id, r := range m.records {
		if m.hotCopy(r) == nil || len(m.open(r)) < m.replicas {
			continue
		}
		if least == "" || id < least {
			least = id
		}
		if id > m.hand.last && (above == "" || id < above) {
			above = id
		}
	}
	if above != "" {
		return above
	}
	return least
}

func (m *plain) copy(r api.Record) api.Work {
	for _, k := range m.open(r) {
		if slices.ContainsFunc(m.hand.copies, func(x api.Place) bool { return x.Dev == 3+k }) {
			continue
		}
		b := m.hotCopy(r).bytes
		at := m.tapes[k].append(r.ID, b)
		m.hand.copies = append(m.hand.copies, api.Place{Dev: 3 + k, At: at, Len: blocks(b)})
		return api.WorkCopy
	}
	m.hand = plainHand{last: r.ID}
	return api.WorkNone
}

func (m *plain) turn(r api.Record) (api.Work, api.Errno) {
	right := true
	for _, x := range m.hand.copies {
		o := m.tapes[x.Dev-3].objects[x.At]
		right = right && o.isOf(r) && o.id == r.ID
	}
	var l []api.Place
	for _, x := range r.Copies {
		if x.Dev != 2 {
			l = append(l, x)
		}
	}
	l = append(l, m.hand.copies...)
	for i := 0; len(l) > api.MaxCopies && i < len(l); {
		if l[i].Bad {
			l = append(l[:i:i], l[i+1:]...)
		} else {
			i++
		}
	}
	switch {
	case !right || len(l) > api.MaxCopies:
		m.hand = plainHand{last: r.ID}
		return api.WorkNone, api.OK
	case m.fault.apply != api.OK:
		return api.WorkNone, m.fault.apply
	}
	for _, x := range r.Copies {
		if o := m.hot[x.At]; o != nil && x.Dev == 2 && x.Len == 1+(len(o.bytes)+63)/64 {
			delete(m.hot, x.At)
		}
	}
	r.Copies = l
	m.records[r.ID] = r
	m.hand = plainHand{last: r.ID}
	return api.WorkSwitch, api.OK
}

// world is a stand, and the plain engine that it is held against.
type world struct {
	*stand
	*plain
	r     *rand.Rand
	f     *faulty
	other map[string]string // what the catalogue has beside records
	works map[api.Work]int
}

func newWorld(t *testing.T, seed int64) *world {
	t.Helper()
	r := rand.New(rand.NewSource(seed))
	replicas := []int{-3, 0, 1, 1, 2, 2, 2, 3}[r.Intn(8)]
	sizes := make([]int, r.Intn(7))
	for i := range sizes {
		sizes[i] = 1 + r.Intn(120)
	}
	w := &world{stand: made(t, replicas, sizes...), r: r, other: map[string]string{}, works: map[api.Work]int{}}
	w.plain = &plain{records: map[string]api.Record{}, hot: map[int]*plainCopy{}, replicas: max(1, replicas)}
	for _, n := range sizes {
		w.plain.tapes = append(w.plain.tapes, &plainTape{size: n, objects: map[int]*plainCopy{}})
	}
	w.f = w.faults()
	return w
}

func (w *world) someID() string {
	return []string{"a", "b", "c", "c-", "ca", "d0", "z.z", "zzzzzzzzzzzzzzzz"}[w.r.Intn(8)]
}

// writes writes bytes to the hot disk, if there is room.
func (w *world) writes(b []byte) (api.Place, bool) {
	x, e := w.h.Append(b)
	if e == api.OK {
		w.plain.hot[x.At] = &plainCopy{bytes: b}
	}
	return x, e == api.OK
}

// sets makes a record be there.
func (w *world) sets(r api.Record) {
	w.t.Helper()
	w.set(r)
	delete(w.other, "o"+r.ID)
	w.plain.records[r.ID] = r
}

// puts puts an object that is there in one, or in some, of all ways that may be.
func (w *world) puts() {
	w.t.Helper()
	id := w.someID()
	b := someBytes(w.r, []int{0, 1, 56, 57, w.r.Intn(150), w.r.Intn(513)}[w.r.Intn(6)])
	r := recordOf(id, b)
	r.Index, r.Expiry, r.Hold, r.Gone = w.r.Intn(9), w.r.Intn(99), w.r.Intn(2) == 0, w.r.Intn(12) == 0
	for range w.r.Intn(9) {
		if x, is := w.somePlace(b); is {
			r.Copies = append(r.Copies, x)
		}
	}
	if x, is := w.writes(b); is && len(r.Copies) < api.MaxCopies {
		r.Copies = slices.Insert(r.Copies, w.r.Intn(len(r.Copies)+1), x)
	}
	switch w.r.Intn(20) {
	case 0:
		r.Length = (r.Length + 1) % 513
	case 1:
		r.Root[w.r.Intn(32)] ^= 1
	}
	w.sets(r)
}

// somePlace is one that a record may name beside that of its object.
func (w *world) somePlace(b []byte) (api.Place, bool) {
	x := api.Place{Dev: w.r.Intn(12), At: w.r.Intn(200), Len: w.r.Intn(14), Bad: w.r.Intn(3) == 0}
	if w.r.Intn(3) > 0 {
		x.Dev = w.r.Intn(2) // more of what is nobody's
	}
	if x.Dev != hotDisk {
		return x, true
	}
	y, is := w.writes(b[:w.r.Intn(len(b)+1)])
	y.Bad = x.Bad
	return y, is
}

// changes changes a record that is there.
func (w *world) changes() {
	w.t.Helper()
	id := w.someID()
	r, is := w.plain.records[id]
	if !is {
		return
	}
	r.Copies = slices.Clone(r.Copies)
	switch n := w.r.Intn(12); {
	case n == 0:
		r.Gone = !r.Gone
	case n < 4:
		r.Expiry += 5
	case n < 6:
		r.Hold = !r.Hold
	case n < 8 && len(r.Copies) > 0:
		i := w.r.Intn(len(r.Copies))
		r.Copies[i].Bad = !r.Copies[i].Bad
	case n == 8 && len(w.plain.tapes) > 0 && len(r.Copies) < api.MaxCopies:
		r.Copies = append(r.Copies, api.Place{Dev: 3 + w.r.Intn(len(w.plain.tapes)), Bad: true})
	case n == 9:
		w.other["o"+id] = "?"
		w.lay("o"+id, []byte("?"))
		delete(w.plain.records, id)
		return
	case n == 10:
		delete(w.other, "o"+id)
		ok(w.t, w.c.Apply([]api.Change{{Key: []byte("o" + id), Gone: true}}))
		delete(w.plain.records, id)
		return
	}
	w.sets(r)
}

// writesTape does something with a tape that the engine knows nothing of.
func (w *world) writesTape() {
	w.t.Helper()
	if len(w.plain.tapes) == 0 {
		return
	}
	k := w.r.Intn(len(w.plain.tapes))
	v, m := w.stand.tapes[k], w.plain.tapes[k]
	switch n := w.r.Intn(20); {
	case n == 0:
		if e := v.Seal(); e == api.OK {
			m.sealed, m.length = true, m.length+2
		}
	case n < 12:
		ok(w.t, v.Flush())
	default:
		b := someBytes(w.r, w.r.Intn(60))
		if _, e := v.Append("x", b); e == api.OK {
			m.append("x", b)
		}
	}
}

// rots turns a byte, and takes down whether what stands there is read still.
func (w *world) rots() {
	w.t.Helper()
	if at, is := someKey(w.r, w.plain.hot); is && w.r.Intn(3) > 0 {
		o := w.plain.hot[at]
		w.p.Rot(hotDisk, at, w.r.Intn(64), 1<<w.r.Intn(8))
		b, e := w.h.Read(place(hotDisk, at, 1+(len(o.bytes)+63)/64))
		o.rotten = e != api.OK || !bytes.Equal(b, o.bytes)
	}
	if len(w.plain.tapes) == 0 {
		return
	}
	k := w.r.Intn(len(w.plain.tapes))
	if at, is := someKey(w.r, w.plain.tapes[k].objects); is {
		o := w.plain.tapes[k].objects[at]
		w.p.Rot(3+k, at+w.r.Intn(blocks(o.bytes)), w.r.Intn(64), 1<<w.r.Intn(8))
		_, b, e := w.stand.tapes[k].Read(place(3+k, at, blocks(o.bytes)))
		o.rotten = e != api.OK || !bytes.Equal(b, o.bytes)
	}
}

func someKey(r *rand.Rand, m map[int]*plainCopy) (int, bool) {
	if len(m) == 0 {
		return 0, false
	}
	return slices.Sorted(maps.Keys(m))[r.Intn(len(m))], true
}

// frees gives a place of the hot disk up.
func (w *world) frees() {
	w.t.Helper()
	if at, is := someKey(w.r, w.plain.hot); is {
		ok(w.t, w.h.Free(place(hotDisk, at, 1+(len(w.plain.hot[at].bytes)+63)/64)))
		delete(w.plain.hot, at)
	}
}

// someFaults makes the catalogue answer errors, or none, from then on.
func (w *world) someFaults() {
	some := func() api.Errno {
		return []api.Errno{api.OK, api.OK, api.OK, api.ErrCorrupt, api.ErrFull}[w.r.Intn(5)]
	}
	w.f.get, w.f.list, w.f.apply = some(), some(), some()
	w.plain.fault = *w.f
}

// both does a step of both, and holds that they are alike.
func (w *world) both() {
	w.t.Helper()
	want, e := w.plain.step()
	got, f := w.stand.step()
	if got != want || f != e {
		w.t.Fatalf("%d, %d; want %d, %d", got, f, want, e)
	}
	w.works[got]++
	w.look()
}

// look holds that catalogue, hot disk and tapes are as those of the plain engine.
func (w *world) look() {
	w.t.Helper()
	want := maps.Clone(w.other)
	for id, r := range w.plain.records {
		b, e := record.Encode(r)
		ok(w.t, e)
		want["o"+id] = string(b)
	}
	if !maps.Equal(w.pairs(), want) {
		w.t.Fatalf("the records are %v; want %v", w.stand.records(), w.plain.records)
	}
	for at := range 96 {
		for n := 1; n <= 9; n++ {
			o := w.plain.hot[at]
			is := o != nil && n == 1+(len(o.bytes)+63)/64
			if b, e := w.h.Read(place(hotDisk, at, n)); is != (e != api.ErrPlace) || is && !o.rotten && !bytes.Equal(b, o.bytes) {
				w.t.Fatalf("the place %d %d of the hot disk: %d; want %v", at, n, e, o)
			}
		}
	}
	for k, m := range w.plain.tapes {
		if n := w.lengths()[k]; n != m.length {
			w.t.Fatalf("the tape %d has %d blocks; want %d", k, n, m.length)
		}
		for at, o := range m.objects {
			id, b, e := w.stand.tapes[k].Read(place(3+k, at, blocks(o.bytes)))
			if !o.rotten && (id != o.id || !bytes.Equal(b, o.bytes) || e != api.OK) {
				w.t.Fatalf("the tape %d at %d: %q, %d; want %q", k, at, id, e, o.id)
			}
		}
	}
}

// TestAnyEvents: an engine beside the plain one, with all that may happen between steps.
func TestAnyEvents(t *testing.T) { // P16.1, P16.2, P16.5, P16.6
	works := map[api.Work]int{}
	for seed := range int64(1500) {
		w := newWorld(t, seed)
		for range 60 {
			switch n := w.r.Intn(100); {
			case n < 20:
				w.puts()
			case n < 30:
				w.changes()
			case n < 35:
				w.writesTape()
			case n < 38:
				w.rots()
			case n < 40:
				w.frees()
			case n < 42:
				w.someFaults()
			case n == 42:
				w.again()
				w.plain.hand, w.plain.fault = plainHand{}, faulty{}
				w.f = w.faults()
			case n == 43:
				ok(t, w.c.Checkpoint())
			default:
				w.both()
			}
		}
		for k, n := range w.works {
			works[k] += n
		}
	}
	if works[api.WorkCopy] < 5000 || works[api.WorkSwitch] < 2000 || works[api.WorkNone] < 5000 {
		t.Errorf("too little was done: %v", works)
	}
}

// TestEnoughSteps: without rot, and with tapes that have room, all that waits is brought.
func TestEnoughSteps(t *testing.T) { // P16.3
	for seed := range int64(200) {
		r := rand.New(rand.NewSource(seed))
		n := 1 + r.Intn(4)
		sizes := make([]int, n+r.Intn(3))
		for i := range sizes {
			sizes[i] = 400
		}
		s := made(t, n, sizes...)
		for put := 0; put < 9; {
			if r.Intn(6) == 0 {
				s.put(string([]byte{byte('a' + r.Intn(26)), byte('0' + put)}), someBytes(r, r.Intn(400)))
				put++
			}
			if _, e := s.step(); e != api.OK {
				t.Fatal(e)
			}
		}
		for range 9 * (n + 1) {
			if _, e := s.step(); e != api.OK {
				t.Fatal(e)
			}
		}
		for id := range s.records() {
			s.isBrought(id)
		}
		s.works(api.WorkNone)
		if x := s.hot(ones(512)); x.At != 0 {
			t.Fatal("the hot disk is not free")
		}
	}
}
