package pager

import (
	"bytes"
	"maps"
	"math"
	"math/rand"
	"slices"
	"testing"

	"muniment/api"
	"muniment/plant"
)

// run does calls to the pager of a disk, and knows what Open may tell: with a call
// that was cut off at hand more than one state may be.
type run struct {
	t   *testing.T
	p   *plant.Plant
	dev int
	g   *Pager
	m   *plain   // what g is like
	may []*plain // what Open may tell; nil: there is no pager
}

// newRun is of a disk that has a pager which is like m, or (nil) none.
func newRun(t *testing.T, p *plant.Plant, dev int, m *plain) *run {
	return &run{t: t, p: p, dev: dev, may: []*plain{m}}
}

// wrong fails: an answer was none that may be.
func (r *run) wrong(call string, e, want api.Errno) {
	r.t.Helper()
	r.t.Fatalf("%s: %d; want %d, or no power", call, e, want)
}

func (r *run) put(b []byte) api.Errno {
	r.t.Helper()
	page, e := r.g.Put(b)
	if e == api.ErrPower && page == 0 {
		return e
	}
	if want, we := r.m.put(b); page != want || e != we {
		r.wrong("Put", e, we)
	}
	return e
}

func (r *run) free(page int) {
	r.t.Helper()
	if e, want := r.g.Free(page), r.m.giveUp(page); e != want {
		r.wrong("Free", e, want)
	}
}

func (r *run) commit(root int) api.Errno {
	r.t.Helper()
	then := &plain{pages: r.m.pages, used: maps.Clone(r.m.used), committed: r.m.committed, root: r.m.root}
	want := then.commit(root)
	e := r.g.Commit(root)
	switch {
	case e == api.OK && want == api.OK:
		r.m, r.may = then, []*plain{then.opened()}
	case e == api.ErrPower && want == api.OK:
		r.may = append(r.may, then.opened())
	case e != want:
		r.wrong("Commit", e, want)
	}
	return e
}

func (r *run) format() api.Errno {
	r.t.Helper()
	r.g = nil
	e := Format(r.p, r.dev)
	empty := newPlain(pagesOf(r.p, r.dev))
	switch e {
	case api.OK:
		r.may = []*plain{empty}
	case api.ErrPower:
		r.may = append(r.may, empty)
	default:
		r.wrong("Format", e, api.OK)
	}
	return e
}

// open settles which of the states it is.
func (r *run) open() api.Errno {
	r.t.Helper()
	g, e := Open(r.p, r.dev)
	if (e == api.OK) != (g != nil) {
		r.t.Fatalf("Open: %v, %d", g, e)
	}
	if e == api.ErrPower {
		r.g = nil
		return e
	}
	for _, m := range r.may {
		if m == nil && e == api.ErrCorrupt || m != nil && e == api.OK && m.like(g) {
			r.g, r.may = g, []*plain{m}
			if m != nil {
				r.m = m.opened()
			}
			return e
		}
	}
	r.t.Fatalf("Open: %d, %v; none of %d that may be", e, g, len(r.may))
	return e
}

// boot crashes, and opens.
func (r *run) boot(keep []int) {
	r.t.Helper()
	r.p.Boot(keep)
	r.open()
}

// tails is what is done behind a crash and its Open, to see that what was left there
// is nobody's any more.
func (r *run) tails() {
	r.t.Helper()
	r.open()
	if r.g == nil {
		r.format()
		r.open()
	}
	for i := byte(0); len(r.m.free()) > 0; i++ {
		r.put([]byte{i})
	}
	same(r.t, r.g, r.m)
	r.boot([]int{1})
	for _, page := range slices.Sorted(maps.Keys(r.m.used))[len(r.m.used)/2:] {
		r.free(page)
	}
	r.put([]byte("tail"))
	r.commit(-1)
	r.boot(nil)
	r.boot(nil)
}

// keeps are the lists for n writes that wait: all there are, if n is small, else
// some of each kind.
func keeps(n int) [][]int {
	if n <= 8 {
		var all [][]int
		for bits := range 1 << n {
			keep := make([]int, n)
			for i := range keep {
				keep[i] = bits >> i & 1
			}
			all = append(all, keep)
		}
		return all
	}
	some := [][]int{{0}, {1}, {0, 1}, {1, 0}, {1, 1, 0}, {0, 0, 1}}
	for i := range n {
		one, front, others := make([]int, n), make([]int, n), make([]int, n)
		for j := range n {
			if j != i {
				others[j] = 1
			}
			if j < i {
				front[j] = 1
			}
		}
		one[i] = 1
		some = append(some, one, front, others)
	}
	return some
}

// cutOff lays a disk out by begin, where so many writes wait then, does a call at
// each fuse till it is not cut off any more, and crashes with each kind of part kept.
func cutOff(t *testing.T, waiting int, begin func() *run, call func(r *run) api.Errno) {
	t.Helper()
	for fuse := 0; ; fuse++ {
		var e api.Errno
		for _, keep := range keeps(waiting + fuse) {
			r := begin()
			r.p.Fuse(fuse)
			e = call(r)
			r.boot(keep)
			r.tails()
		}
		if e != api.ErrPower {
			return
		}
	}
}

// begun is a disk of five pages, with this committed: 0, 1, and 3 as root.
func begun(t *testing.T) *run {
	t.Helper()
	r := newRun(t, made(t, []int{2 + 5*8}, nil), 0, nil)
	r.format()
	r.open()
	for _, s := range []string{"a", "b", "c", "d"} {
		r.put([]byte(s))
	}
	r.free(2)
	r.commit(3)
	return r
}

// TestCommitCutOff: at each step, behind all kinds of Put and Free.
func TestCommitCutOff(t *testing.T) { // P9.8, P9.9
	long := bytes.Repeat([]byte("0123456789"), 50)
	for name, c := range map[string]struct {
		puts int
		do   func(r *run)
		root int
	}{
		"nothing":      {0, func(r *run) {}, 3},
		"another root": {0, func(r *run) {}, 0},
		"no root":      {0, func(r *run) {}, -1},
		"Free":         {0, func(r *run) { r.free(0) }, 3},
		"Free of all":  {0, func(r *run) { r.free(0); r.free(1); r.free(3) }, -1},
		"Put":          {1, func(r *run) { r.put(long) }, 2},
		"Put of none":  {1, func(r *run) { r.put(nil) }, 3},
		"Put for another": {1, func(r *run) {
			r.put(long)
			r.free(3)
		}, 2},
		"Put, Free, Put": {2, func(r *run) {
			r.put([]byte("old"))
			r.free(2)
			r.put(long)
		}, 2},
		"two": {2, func(r *run) {
			r.put(long)
			r.put(long[1:])
			r.free(0)
			r.free(1)
		}, 4},
		"one of two": {2, func(r *run) {
			r.put(long)
			r.put(long[2:])
			r.free(2)
		}, 4},
	} {
		begin := func() *run {
			r := begun(t)
			c.do(r)
			return r
		}
		t.Run(name, func(t *testing.T) {
			cutOff(t, 8*c.puts, begin, func(r *run) api.Errno { return r.commit(c.root) })
		})
	}
}

// TestFirstCommitCutOff: behind Format, and behind one commit.
func TestFirstCommitCutOff(t *testing.T) { // P9.8
	for _, commits := range []int{0, 1, 2, 3} {
		begin := func() *run {
			r := newRun(t, made(t, []int{18}, nil), 0, nil)
			r.format()
			r.open()
			for range commits {
				r.commit(-1)
			}
			r.put([]byte("new"))
			return r
		}
		cutOff(t, 8, begin, func(r *run) api.Errno { return r.commit(0) })
	}
}

func TestPutCutOff(t *testing.T) { // P9.8, P9.9
	for _, ahead := range []func(r *run){
		func(r *run) {},
		func(r *run) { r.free(0); r.free(3) },
	} {
		begin := func() *run {
			r := begun(t)
			ahead(r)
			return r
		}
		cutOff(t, 0, begin, func(r *run) api.Errno { return r.put(make([]byte, 500)) })
	}
}

// TestPutAndFreeLeaveNothing: behind a crash without any call at hand.
func TestPutAndFreeLeaveNothing(t *testing.T) { // P9.8, P9.9
	for _, keep := range keeps(16) {
		r := begun(t)
		r.free(0)
		r.put([]byte("x"))
		r.free(3)
		r.put([]byte("y"))
		r.boot(keep)
		r.tails()
	}
}

// TestCutOffTwice: a commit, then another one of the next boot, where the first one
// left something or not.
func TestCutOffTwice(t *testing.T) { // P9.8, P9.9
	long := bytes.Repeat([]byte("abcd"), 125)
	for fuse := range 12 {
		for _, keep := range [][]int{{0}, {1}, {1, 0}, {0, 1, 1}} {
			begin := func() *run {
				r := begun(t)
				r.p.Fuse(fuse)
				if r.put(long) == api.OK {
					r.free(3)
					r.commit(2)
				}
				r.boot(keep)
				r.put([]byte("second"))
				r.free(0)
				return r
			}
			for fuse := range 4 {
				for _, keep := range [][]int{{0}, {1}, {1, 0}, {0, 1}, {0, 0, 0, 1}} {
					r := begin()
					r.p.Fuse(fuse)
					r.commit(1)
					r.boot(keep)
					r.tails()
				}
			}
		}
	}
}

// filled is a disk that Format is given, with what Open tells of it.
type filled struct {
	p *plant.Plant
	m *plain
}

// withHeads is a disk of two pages that has these two sectors, for good, in front of
// what is there.
func withHeads(t *testing.T, p *plant.Plant, first, second sector) *plant.Plant {
	t.Helper()
	q := p.Clone()
	ok(t, q.Write(0, 0, first[:]))
	ok(t, q.Write(0, 1, second[:]))
	ok(t, q.Flush(0))
	return q
}

// fillings are what a disk of two pages may have had ahead of Format.
func fillings(t *testing.T) map[string]filled {
	r := rand.New(rand.NewSource(1))
	var junk, blank sector
	copy(junk[:], someBytes(r, 64))
	all, g := formatted(t, 2)
	empty := all.Clone()
	puts(t, g, []byte("a"), 0)
	ok(t, g.Commit(0))
	once := all.Clone()
	puts(t, g, []byte("b"), 1)
	ok(t, g.Commit(1))
	m := newPlain(2)
	m.put([]byte("a"))
	m.commit(0)
	mOnce := m.opened()
	m.put([]byte("b"))
	m.commit(1)
	h := func(number uint64) sector { return head{number: number, root: 1, used: set{3}}.sector() }
	const top = math.MaxUint64
	fill := map[string]filled{
		"new": {made(t, []int{18}, nil), nil}, "empty": {empty, newPlain(2)}, "once": {once, mOnce}, "twice": {all, m},
		"round the end": {withHeads(t, all, h(0), h(top)), m}, "at the end": {withHeads(t, all, h(top-1), h(top)), m},
	}
	for name, heads := range map[string][2]sector{
		"junk": {junk, junk}, "junk and 0": {h(0), junk}, "junk and 1": {junk, h(1)}, "junk and 2": {h(2), junk}, "junk and top": {junk, h(top)},
		"blank and 0": {h(0), blank}, "blank and 1": {blank, h(1)}, "blank and 2": {h(2), blank}, "blank and 3": {blank, h(3)},
		"0 and 3": {h(0), h(3)}, "2 and 5": {h(2), h(5)}, "2 and top": {h(2), h(top)}, "4 and 1": {h(4), h(1)},
		"the other way": {h(1), h(0)}, "the other way, later": {h(1), h(2)}, "twice 0": {h(0), h(0)}, "twice 1": {h(1), h(1)},
	} {
		fill[name] = filled{withHeads(t, all, heads[0], heads[1]), nil}
	}
	for place := range 2 {
		q := all.Clone()
		q.Rot(0, place, 20, 1)
		fill["rotted "+string(rune('0'+place))] = filled{q, nil}
	}
	return fill
}

func TestFormatWhateverTheDiskHad(t *testing.T) { // P9.1
	for name, f := range fillings(t) {
		t.Run(name, func(t *testing.T) {
			r := newRun(t, f.p.Clone(), 0, f.m)
			r.open()
			r.format()
			r.boot(nil)
			has(t, r.g, -1, 2)
			r.tails()
			r.format()
			r.open()
			has(t, r.g, -1, 2)
			r.tails()
		})
	}
}

// TestFormatOfWhatWaits: what was not flushed ahead of Format does not come back.
func TestFormatOfWhatWaits(t *testing.T) { // P9.1
	g := rand.New(rand.NewSource(2))
	for name, f := range fillings(t) {
		for _, places := range [][]int{{0}, {1}, {0, 1}, {5, 9}} {
			p := f.p.Clone()
			for _, place := range places {
				ok(t, p.Write(0, place, someBytes(g, 64)))
			}
			r := newRun(t, p, 0, nil)
			r.format()
			p.Boot([]int{g.Intn(2), g.Intn(2)})
			r.open()
			has(t, r.g, -1, 2)
			r.tails()
			if t.Failed() {
				t.Fatalf("%s, %v", name, places)
			}
		}
	}
}

func TestFormatCutOff(t *testing.T) { // P9.8
	for name, f := range fillings(t) {
		t.Run(name, func(t *testing.T) {
			begin := func() *run { return newRun(t, f.p.Clone(), 0, f.m) }
			cutOff(t, 0, begin, (*run).format)
		})
	}
}

// TestFormatCutOffTwice: the second one finds what the first one left.
func TestFormatCutOffTwice(t *testing.T) { // P9.8
	for name, f := range fillings(t) {
		t.Run(name, func(t *testing.T) {
			for fuse := range 6 {
				for _, keep := range [][]int{{0}, {1}, {1, 0}, {0, 1}} {
					begin := func() *run {
						r := newRun(t, f.p.Clone(), 0, f.m)
						r.p.Fuse(fuse)
						r.format()
						r.boot(keep)
						return r
					}
					cutOff(t, 0, begin, (*run).format)
				}
			}
		})
	}
}

// TestFormatOfAPagerInUse: pages that wait are cut off with it.
func TestFormatOfAPagerInUse(t *testing.T) { // P9.8
	begin := func() *run {
		r := begun(t)
		r.put([]byte("x"))
		r.free(0)
		return r
	}
	cutOff(t, 8, begin, (*run).format)
}

// TestOpenDoesNoStep: so that no crash is within it, and it may be done again.
func TestOpenDoesNoStep(t *testing.T) { // P9.8
	r := begun(t)
	r.put([]byte("x"))
	steps := r.p.Steps()
	r.open()
	same(t, r.g, r.m)
	r.open()
	if r.p.Steps() != steps {
		t.Errorf("Open did a step")
	}
}

// TestAnyCallsWithCrashes: two pagers on one plant, any calls, any crashes.
func TestAnyCallsWithCrashes(t *testing.T) { // P9.1 to P9.9
	for seed := range int64(200) {
		g := rand.New(rand.NewSource(seed))
		p := made(t, []int{10 + g.Intn(50), 10 + g.Intn(20)}, []int{3})
		runs := []*run{newRun(t, p, 0, nil), newRun(t, p, 1, nil)}
		for range 120 {
			if g.Intn(5) == 0 {
				p.Fuse(g.Intn(25))
			}
			someCutOffCall(g, runs[g.Intn(2)])
			if p.On() {
				continue
			}
			keep := make([]int, g.Intn(12))
			for i := range keep {
				keep[i] = g.Intn(5) - 2
			}
			p.Boot(keep)
			for _, r := range runs {
				r.open()
			}
		}
		p.Boot(nil)
		for _, r := range runs {
			r.open()
			r.tails()
		}
	}
}

func someCutOffCall(g *rand.Rand, r *run) {
	r.t.Helper()
	switch k := g.Intn(40); {
	case k == 0 || r.g == nil:
		if r.format() == api.OK {
			r.open()
		}
	case k < 3:
		r.open()
	case k < 19:
		r.put(someBytes(g, someLength(g)))
	case k < 28:
		r.free(r.m.somePage(g))
	default:
		r.commit(r.m.somePage(g))
	}
}
