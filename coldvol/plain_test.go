package coldvol

import (
	"bytes"
	"math/rand"
	"slices"
	"testing"

	"muniment/api"
	"muniment/plant"
	"muniment/tree"
)

// row is what one Append, or one Seal, wrote: an object, or an end.
type row struct {
	place api.Place
	end   bool
	id    string
	bytes []byte
	root  api.Hash
}

// cell is a block of the plain tape: which row's, and which of it.
type cell struct {
	of   *row
	i    int
	torn bool
}

// plain is a tape as the chapter's words have it.
type plain struct {
	dev, size int
	cells     []cell
	sealed    *row
}

func (m *plain) room() int {
	if m.sealed != nil {
		return 0
	}
	return max(0, m.size-len(m.cells)-2)
}

// at is the object whose blocks are just these.
func (m *plain) at(x api.Place) *row {
	if x.Dev != m.dev || x.At < 0 || x.At >= len(m.cells) {
		return nil
	}
	o := m.cells[x.At].of
	if o == nil || o.end || o.place.At != x.At || o.place.Len != x.Len || x.At+x.Len > len(m.cells) {
		return nil
	}
	for i, c := range m.cells[x.At : x.At+x.Len] {
		if c.of != o || c.i != i || c.torn {
			return nil
		}
	}
	return o
}

func (m *plain) objects() []*row {
	var l []*row
	for at := 0; at < len(m.cells) && m.cells[at].of != nil; {
		o := m.at(m.cells[at].of.place)
		if o == nil || o.place.At != at {
			break
		}
		l = append(l, o)
		at += o.place.Len
	}
	return l
}

func (m *plain) root() api.Hash {
	var l []api.Hash
	for _, o := range m.objects() {
		l = append(l, tree.Leaf(append([]byte(o.id), o.bytes...)))
	}
	return tree.Root(l)
}

// world is a plant with tapes, and the plain tapes that its volumes are held against. It
// remembers what waits, of all tapes, in its order.
type world struct {
	t       *testing.T
	p       *plant.Plant
	plain   []*plain
	volumes []*Volume
	waits   []*plain // of each block that waits its tape
	told    []api.Place
}

func newWorld(t *testing.T, sizes ...int) *world {
	t.Helper()
	w := &world{t: t, p: made(t, []int{3}, sizes)}
	for i, n := range sizes {
		w.plain = append(w.plain, &plain{dev: i + 1, size: n})
	}
	w.reopen()
	return w
}

func (w *world) reopen() {
	w.t.Helper()
	w.volumes = nil
	for _, m := range w.plain {
		w.volumes = append(w.volumes, opens(w.t, w.p, m.dev))
	}
}

// wrote takes down the blocks that a tape got, of a row that is there wholly or in part.
func (w *world) wrote(k int, o *row) {
	w.t.Helper()
	m := w.plain[k]
	for i := range lengthOf(w.t, w.p, m.dev) - len(m.cells) {
		m.cells = append(m.cells, cell{of: o, i: i})
		w.waits = append(w.waits, m)
	}
}

func (w *world) flushed(k int) {
	w.waits = slices.DeleteFunc(w.waits, func(m *plain) bool { return m == w.plain[k] })
}

func (w *world) append(k int, id string, b []byte) api.Errno {
	w.t.Helper()
	v, m := w.volumes[k], w.plain[k]
	o := &row{place: api.Place{Dev: m.dev, At: len(m.cells), Len: blocksOf(len(b))}, id: id, bytes: bytes.Clone(b)}
	want := api.OK
	if len(b) > 512 {
		want = api.ErrLong
	} else if m.room() < o.place.Len {
		want = api.ErrFull
	}
	x, e := v.Append(id, b)
	spoil(b)
	switch {
	case e == api.ErrPower && x == (api.Place{}) && want == api.OK:
		w.wrote(k, o)
	case e != want || e == api.OK && x != o.place || e != api.OK && x != (api.Place{}):
		w.t.Fatalf("Append(%q, %d bytes): %v, %d; want %v, %d", id, len(b), x, e, o.place, want)
	case e == api.OK:
		w.wrote(k, o)
		w.told = append(w.told, x)
		if c := m.cells[len(m.cells)-1]; c.of != o || c.i != o.place.Len-1 {
			w.t.Fatalf("Append wrote %d blocks; want %d", c.i+1, o.place.Len)
		}
	}
	return e
}

func (w *world) flush(k int) api.Errno {
	w.t.Helper()
	e := w.volumes[k].Flush()
	if e == api.OK {
		w.flushed(k)
	} else if e != api.ErrPower {
		w.t.Fatalf("Flush: %d", e)
	}
	return e
}

func (w *world) seal(k int) api.Errno {
	w.t.Helper()
	m := w.plain[k]
	want := api.OK
	if m.sealed != nil || m.size-len(m.cells) < 2 {
		want = api.ErrFull
	}
	o := &row{place: api.Place{Dev: m.dev, At: len(m.cells), Len: 2}, end: true, root: m.root()}
	e := w.volumes[k].Seal()
	switch {
	case e == api.ErrPower && want == api.OK:
		w.wrote(k, o)
	case e != want:
		w.t.Fatalf("Seal: %d; want %d", e, want)
	case e == api.OK:
		w.wrote(k, o)
		w.flushed(k)
		m.sealed = o
	}
	return e
}

func (w *world) read(k int, x api.Place) {
	w.t.Helper()
	o := w.plain[k].at(x)
	if o == nil {
		readsNot(w.t, w.volumes[k], x, api.ErrCorrupt)
		return
	}
	id, b, e := w.volumes[k].Read(x)
	if e != api.OK || id != o.id || !bytes.Equal(b, o.bytes) {
		w.t.Fatalf("Read(%v): %q, %x, %d; want %q, %x", x, id, b, e, o.id, o.bytes)
	}
	spoil(b)
}

// look holds all that can be asked of a tape against the plain one.
func (w *world) look(k int) {
	w.t.Helper()
	v, m := w.volumes[k], w.plain[k]
	var places []api.Place
	for _, o := range m.objects() {
		places = append(places, o.place)
	}
	lists(w.t, v, places...)
	roomIs(w.t, v, m.room())
	if m.sealed == nil {
		isOpen(w.t, v)
	} else {
		isClosed(w.t, v, m.sealed.root)
	}
	for _, x := range w.told {
		w.read(k, x)
	}
}

// boot lets the power go off and on: of what waits each tape keeps a beginning.
func (w *world) boot(keep []int) {
	w.t.Helper()
	ended := map[*plain]int{} // how many blocks a tape has at the end
	for _, m := range w.plain {
		ended[m] = len(m.cells)
	}
	behind := map[*plain]int{} // how many of its blocks are gone through
	for _, m := range w.plain {
		behind[m] = len(m.cells)
	}
	for _, m := range w.waits {
		behind[m]--
	}
	for i, m := range w.waits {
		at, k := behind[m], 0
		behind[m]++
		if len(keep) > 0 {
			k = keep[i%len(keep)]
		}
		if at >= ended[m] || k&1 == 1 {
			continue
		}
		ended[m] = at
		if k&3 == 2 {
			m.cells[at].torn = true
			ended[m]++
		}
	}
	for m, n := range ended {
		m.cells = m.cells[:n]
	}
	w.waits = nil
	w.p.Boot(keep)
	w.reopen()
	for k := range w.plain {
		w.settle(k)
	}
}

// settle takes down whether a Seal that was cut off is done: both may be, but if it is, it
// is by the root that it was asked for.
func (w *world) settle(k int) {
	w.t.Helper()
	m := w.plain[k]
	if n := lengthOf(w.t, w.p, m.dev); n != len(m.cells) {
		w.t.Fatalf("%d blocks are there, not %d", n, len(m.cells))
	}
	if m.sealed != nil || len(m.cells) == 0 {
		return
	}
	last := m.cells[len(m.cells)-1]
	if _, sealed := w.volumes[k].Root(); sealed && last.of.end {
		m.sealed = last.of
	}
	if last.of.end && last.i == 1 && !last.torn && m.sealed == nil {
		w.t.Fatal("the whole end is there, and it is not sealed")
	}
}

// somePlace is one that was told more often than not, else one next to such, or a wrong
// one.
func (w *world) somePlace(r *rand.Rand) api.Place {
	if len(w.told) == 0 || r.Intn(12) == 0 {
		x := wrongPlaces()[r.Intn(len(wrongPlaces()))]
		x.Dev++
		return x
	}
	x := w.told[r.Intn(len(w.told))]
	x.Bad = r.Intn(4) == 0
	if r.Intn(4) == 0 {
		x.At, x.Len = x.At+r.Intn(3)-1, x.Len+r.Intn(3)-1
	}
	return x
}

// someLength is often one at which a block is just full.
func someLength(r *rand.Rand) int {
	switch r.Intn(8) {
	case 0:
		return 56 * r.Intn(10)
	case 1:
		return min(56*r.Intn(10)+1, 512)
	case 2, 3:
		return r.Intn(514)
	case 4:
		return 0
	case 5:
		return 505 + r.Intn(10)
	}
	return r.Intn(130)
}

// TestAgainstPlain: calls in any order, on two tapes in turns, with the power on.
func TestAgainstPlain(t *testing.T) { // P15.1 to P15.6, P15.8
	told := map[api.Errno]int{}
	for seed := range int64(200) {
		r := rand.New(rand.NewSource(seed))
		w := newWorld(t, 1+r.Intn(80), 1+r.Intn(200))
		for range 60 {
			k := r.Intn(2)
			switch n := r.Intn(60); {
			case n < 30:
				told[w.append(k, someName(r), someBytes(r, someLength(r)))]++
			case n < 45:
				w.read(k, w.somePlace(r))
			case n < 50:
				w.flush(k)
			case n < 58:
				w.look(k)
			case n < 59:
				w.reopen()
			default:
				w.seal(k)
			}
		}
		w.look(0)
		w.look(1)
		w.seal(r.Intn(2))
		w.reopen()
		w.look(0)
		w.look(1)
	}
	for _, e := range []api.Errno{api.OK, api.ErrFull, api.ErrLong} {
		if told[e] < 15 {
			t.Errorf("Append told %d only %d times: the calls are not of all kinds", e, told[e])
		}
	}
}

// TestOneAlone: what a place has does not hang on what else is appended, be it alike or
// not, or on the order in which places are read.
func TestOneAlone(t *testing.T) { // P15.8
	r := rand.New(rand.NewSource(9))
	for range 60 {
		_, v := one(t, 300)
		var places []api.Place
		var ids []string
		var all [][]byte
		for range 20 {
			id, b := someName(r), someBytes(r, someLength(r)%513)
			if n := len(all); n > 0 && r.Intn(3) == 0 {
				b = all[r.Intn(n)]
			}
			if n := len(ids); n > 0 && r.Intn(3) == 0 {
				id = ids[r.Intn(n)]
			}
			x, e := v.Append(id, b)
			ok(t, e)
			places, ids, all = append(places, x), append(ids, id), append(all, b)
		}
		for _, i := range r.Perm(20) {
			reads(t, v, places[i], ids[i], all[i])
		}
	}
}
