package wal

import (
	"math/rand"
	"testing"

	"muniment/api"
	"muniment/plant"
)

// state is what a disk has: a journal with its transactions, or none.
type state struct {
	journal bool
	txs     [][][]byte
}

// run does calls to the journal of a disk, and knows what Open may tell: with a
// call that was cut off at hand more than one state may be.
type run struct {
	t   *testing.T
	p   *plant.Plant
	dev int
	w   *Wal
	may []state
}

func newRun(t *testing.T, p *plant.Plant, dev int) *run {
	return &run{t: t, p: p, dev: dev, may: []state{{}}}
}

// done is behind each call: what may be, if it was done, and what more, if it was
// cut off.
func (r *run) done(e api.Errno, then state, more ...state) api.Errno {
	r.t.Helper()
	switch e {
	case api.OK:
		r.may = []state{then}
	case api.ErrPower:
		r.may = append(append(r.may, then), more...)
	default:
		r.t.Fatalf("answers %d", e)
	}
	return e
}

func (r *run) format() api.Errno {
	r.t.Helper()
	return r.done(Format(r.p, r.dev), state{journal: true}, state{})
}

func (r *run) append(tx [][]byte) api.Errno {
	r.t.Helper()
	txs := append(append([][][]byte{}, r.may[0].txs...), tx)
	return r.done(r.w.Append(tx), state{journal: true, txs: txs})
}

func (r *run) truncate() api.Errno {
	r.t.Helper()
	return r.done(r.w.Truncate(), state{journal: true})
}

// open settles which of the states it is.
func (r *run) open() api.Errno {
	r.t.Helper()
	w, txs, e := Open(r.p, r.dev)
	if (e == api.OK) != (w != nil) || e != api.OK && len(txs) > 0 {
		r.t.Fatalf("Open: %d with %v, %v", e, w, txs)
	}
	if e == api.ErrPower {
		r.w = nil
		return e
	}
	for _, s := range r.may {
		if s.journal && e == api.OK && sameTxs(s.txs, txs) || !s.journal && e == api.ErrCorrupt {
			r.w, r.may = w, []state{s}
			return e
		}
	}
	r.t.Fatalf("Open: %d, %v; may be %v", e, txs, r.may)
	return e
}

// boot crashes, and opens.
func (r *run) boot(keep []int) api.Errno {
	r.t.Helper()
	r.p.Boot(keep)
	return r.open()
}

// keeps are the lists for n writes that wait: all there are, if n is small, else
// some of each kind.
func keeps(n int) [][]int {
	if n <= 5 {
		var all [][]int
		for bits := range 1 << n {
			keep := make([]int, n)
			for i := range keep {
				keep[i] = bits >> i & 1
			}
			all = append(all, keep)
		}
		return all
	}
	some := [][]int{{0}, {1}, {0, 1}, {1, 0}, {1, 1, 0}, {0, 0, 1}}
	for i := range n {
		one, front, others := make([]int, n), make([]int, n), make([]int, n)
		for j := range n {
			if j != i {
				others[j] = 1
			}
			if j < i {
				front[j] = 1
			}
		}
		one[i] = 1
		some = append(some, one, front, others)
	}
	return some
}

// tails is what is done behind a crash and its Open, to see that what was left
// there is nobody's any more.
func tails(r *run, tx [][]byte) {
	r.t.Helper()
	r.open()
	if r.w == nil {
		r.format()
		r.open()
	}
	if r.w.Fits(tx) {
		r.append(tx)
	}
	r.open()
	if r.w.Fits(nil) {
		r.append(nil)
	}
	r.open()
	r.p.Boot(nil)
	r.open()
}

// cutOff lays a disk out by begin, does a call at each fuse till it is not cut off
// any more, crashes with each kind of part kept, and hands each on to check.
func cutOff(t *testing.T, begin func() *run, call func(r *run) api.Errno, check func(r *run)) {
	t.Helper()
	for fuse := 0; ; fuse++ {
		var e api.Errno
		for _, keep := range keeps(fuse) {
			r := begin()
			r.p.Fuse(fuse)
			e = call(r)
			r.boot(keep)
			check(r)
		}
		if e != api.ErrPower {
			return
		}
	}
}

// TestCutOffAtEachStep: each call, on disks with something and with nothing.
func TestCutOffAtEachStep(t *testing.T) { // P8.6
	g := rand.New(rand.NewSource(1))
	small, big, tail := someTx(g, 1, 5), someTx(g, 3, 190), someTx(g, 2, 150)
	for name, first := range map[string][][][]byte{"none": nil, "one": {small}, "some": {small, nil, big}} {
		begin := func() *run {
			p := made(t, []int{16}, nil)
			r := newRun(t, p, 0)
			r.format()
			r.open()
			for _, tx := range first {
				r.append(tx)
			}
			return r
		}
		check := func(r *run) { tails(r, tail) }
		for call, f := range map[string]func(r *run) api.Errno{
			"Open":     (*run).open,
			"Truncate": (*run).truncate,
			"Append":   func(r *run) api.Errno { return r.append(big) },
			"of one":   func(r *run) api.Errno { return r.append(small) },
			"of none":  func(r *run) api.Errno { return r.append(nil) },
			"Format":   (*run).format,
		} {
			t.Run(name+" "+call, func(t *testing.T) { cutOff(t, begin, f, check) })
		}
	}
}

// TestFormatCutOff: of disks that have anything.
func TestFormatCutOff(t *testing.T) { // P8.6, P8.1
	tail := someTx(rand.New(rand.NewSource(2)), 2, 100)
	for name, p := range fillings(t, 9) {
		if name == "junk that waits" {
			ok(t, p.Flush(0))
		}
		begin := func() *run {
			r := newRun(t, p.Clone(), 0)
			if _, txs, e := Open(p.Clone(), 0); e == api.OK {
				r.may = []state{{true, txs}}
			}
			return r
		}
		t.Run(name, func(t *testing.T) {
			cutOff(t, begin, (*run).format, func(r *run) { tails(r, tail) })
		})
	}
}

// TestCutOffAgainWhileItOpens: a crash within Append, then one within Open, and
// another one within the next Append, each with all kinds of parts kept.
func TestCutOffAgainWhileItOpens(t *testing.T) { // P8.6
	g := rand.New(rand.NewSource(3))
	one, big, other := someTx(g, 1, 8), someTx(g, 2, 120), someTx(g, 2, 125)
	for _, keep := range keeps(3) {
		for openFuse := range 3 {
			for _, openKeep := range keeps(1) {
				begin := func() *run {
					r := newRun(t, made(t, []int{9}, nil), 0)
					r.format()
					r.open()
					r.append(one)
					r.p.Fuse(3)
					if r.append(big) != api.ErrPower {
						t.Fatalf("not cut off")
					}
					r.p.Boot(keep)
					r.p.Fuse(openFuse)
					r.open()
					r.boot(openKeep)
					return r
				}
				cutOff(t, begin, func(r *run) api.Errno {
					if !r.w.Fits(other) {
						return r.truncate()
					}
					return r.append(other)
				}, func(r *run) { tails(r, one) })
			}
		}
	}
}

// TestPartsOfTwoRows: parts of a row that was cut off, under parts of another one,
// never make a whole. The rows have as many sectors, or more, or fewer.
func TestPartsOfTwoRows(t *testing.T) { // P8.6
	g := rand.New(rand.NewSource(4))
	old := someTx(g, 1, 200)
	for _, between := range []func(r *run){
		func(r *run) {},
		func(r *run) { r.open() },
		func(r *run) { r.truncate() },
		func(r *run) { r.append(nil); r.truncate() },
		func(r *run) { r.format(); r.open() },
		func(r *run) { r.format(); r.open(); r.append([][]byte{{1}}); r.truncate() },
	} {
		for _, next := range [][][]byte{old, someTx(g, 1, 200), someTx(g, 1, 120), someTx(g, 1, 210), nil} {
			for _, keep := range keeps(5) {
				n := sectors(size(next)) // the power goes off ahead of the flush
				for _, again := range keeps(n) {
					r := newRun(t, made(t, []int{14}, nil), 0)
					r.format()
					r.open()
					r.p.Fuse(5)
					r.append(old)
					r.boot(keep)
					between(r)
					r.p.Fuse(n)
					r.append(next)
					r.boot(again)
					tails(r, next)
				}
			}
		}
	}
}

// own is a transaction whose records are sectors as the journal laid them down: of
// what is there now, and of what was there ahead of a Truncate or a Format.
func own(g *rand.Rand, seen [][]byte) [][]byte {
	var tx [][]byte
	for range 1 + g.Intn(5) {
		b := seen[g.Intn(len(seen))]
		switch g.Intn(4) {
		case 0:
			// So that a sector's bytes begin where a part's piece begins.
			b = append(b[:len(b):len(b)], b...)
		case 1:
			b = b[g.Intn(len(b)):]
		}
		tx = append(tx, b)
	}
	return tx
}

// see keeps what the disk has now.
func see(t *testing.T, p *plant.Plant, dev int, seen [][]byte) [][]byte {
	all := content(t, p, dev)
	for len(all) > 0 {
		seen = append(seen, all[:64:64])
		all = all[64:]
	}
	return seen
}

func TestRecordsOfTheJournalsOwnBytes(t *testing.T) { // P8.6
	g := rand.New(rand.NewSource(5))
	for range 150 {
		r := newRun(t, made(t, []int{30}, nil), 0)
		r.format()
		r.open()
		var seen [][]byte
		for range 25 {
			seen = see(t, r.p, 0, seen)
			tx := own(g, seen)
			switch k := g.Intn(12); {
			case k == 0:
				r.format()
				r.open()
			case k < 3 || !r.w.Fits(tx):
				r.truncate()
			case k < 6:
				r.p.Fuse(g.Intn(8))
				r.append(tx)
				r.boot([]int{g.Intn(2), g.Intn(2), g.Intn(2), g.Intn(2), g.Intn(2)})
			case k < 7:
				r.open()
			default:
				r.append(tx)
			}
		}
		r.boot(nil)
	}
}

// TestAnyCallsWithCrashes: two journals on one plant, any calls, any crashes.
func TestAnyCallsWithCrashes(t *testing.T) { // P8.1 to P8.6, P8.8
	for seed := range int64(250) {
		g := rand.New(rand.NewSource(seed))
		p := made(t, []int{8 + g.Intn(20), 8 + g.Intn(4)}, nil)
		runs := []*run{newRun(t, p, 0), newRun(t, p, 1)}
		var seen [][]byte
		for range 150 {
			if g.Intn(4) == 0 {
				p.Fuse(g.Intn(14))
			}
			someCall(g, runs[g.Intn(2)], &seen)
			if p.On() {
				continue
			}
			keep := make([]int, g.Intn(7))
			for i := range keep {
				keep[i] = g.Intn(5) - 2
			}
			p.Boot(keep)
			if g.Intn(3) == 0 {
				p.Fuse(g.Intn(4))
			}
			for _, r := range runs {
				r.open()
			}
			p.Boot([]int{g.Intn(2)})
			for _, r := range runs {
				r.open()
			}
		}
	}
}

func someCall(g *rand.Rand, r *run, seen *[][]byte) {
	r.t.Helper()
	tx := someTx(g, 1+g.Intn(4), g.Intn(120))
	if len(*seen) > 0 && g.Intn(2) == 0 {
		tx = own(g, *seen)
	}
	switch k := g.Intn(30); {
	case k == 0 || r.w == nil:
		if r.format() == api.OK {
			r.open()
		}
	case k < 4:
		r.open()
	case k < 7:
		r.truncate()
	case k < 9:
		*seen = see(r.t, r.p, r.dev, *seen)
	case k < 11:
		tx = nil
		fallthrough
	default:
		if r.w.Fits(tx) {
			r.append(tx)
		} else if e := r.w.Append(tx); e != api.ErrFull && e != api.ErrLong {
			r.t.Fatalf("Append of what does not fit: %d", e)
		}
	}
}
