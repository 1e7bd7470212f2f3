package catalog

import (
	"bytes"
	"maps"
	"math/rand"
	"slices"
	"strings"
	"testing"

	"muniment/api"
	"muniment/pager"
	"muniment/plant"
)

// run does calls to the catalogue of a plant, and knows what Open may find: with an
// Apply that was cut off at hand one of two.
type run struct {
	t   *testing.T
	p   *plant.Plant
	c   *Catalog
	m   plain
	may []plain
}

// newRun is of a plant that has a catalogue with these keys.
func newRun(t *testing.T, p *plant.Plant, m plain) *run {
	t.Helper()
	r := &run{t: t, p: p, may: []plain{m}}
	r.open()
	return r
}

// open settles which of the catalogues it is.
func (r *run) open() api.Errno {
	r.t.Helper()
	c, e := Open(r.p, 0, 1)
	if e == api.ErrPower && c == nil {
		return e
	}
	if e != api.OK || c == nil {
		r.t.Fatalf("Open: %d", e)
	}
	for _, m := range r.may {
		if m.like(c) {
			r.c, r.m, r.may = c, m, []plain{m}
			return e
		}
	}
	l, e := c.List(nil)
	r.t.Fatalf("opened anew: %d, %x; none of %d that may be", e, told(l), len(r.may))
	return e
}

// boot crashes, and opens.
func (r *run) boot(keep []int) {
	r.t.Helper()
	r.p.Boot(keep)
	r.open()
}

func (r *run) apply(l ...api.Change) api.Errno {
	r.t.Helper()
	n, _ := r.m.with(l)
	e := r.c.Apply(l)
	switch e {
	case api.OK:
		r.m, r.may = n, []plain{n}
	case api.ErrPower:
		r.may = []plain{r.m, n}
	default:
		r.t.Fatalf("Apply: %d", e)
	}
	return e
}

func (r *run) checkpoint() api.Errno {
	r.t.Helper()
	e := r.c.Checkpoint()
	if e != api.OK && e != api.ErrPower {
		r.t.Fatalf("Checkpoint: %d", e)
	}
	return e
}

// format makes a catalogue without keys. Cut off, it is called again behind a boot.
func (r *run) format(keep []int) {
	r.t.Helper()
	for e := Format(r.p, 0, 1); e != api.OK; e = Format(r.p, 0, 1) {
		if e != api.ErrPower {
			r.t.Fatalf("Format: %d", e)
		}
		r.p.Boot(keep)
	}
	r.may = []plain{{}}
}

// tails is what is done behind a crash, to see that what was left there is nobody's any
// more.
func (r *run) tails() {
	r.t.Helper()
	same(r.t, r.c, r.m)
	r.open()
	r.apply(set("tail", "1"), gone(key(1, 24)))
	r.boot([]int{1})
	r.apply(set(key(0, 24), "tail"), set("tail", strings.Repeat("t", 160)))
	r.open()
	r.checkpoint()
	r.apply(gone("tail"))
	r.boot(nil)
	r.checkpoint()
	g, e := pager.Open(r.p, 1)
	ok(r.t, e)
	if pages := (r.p.Shape().Disks[1] - 2) / 8; g.Room() < pages-len(r.m) {
		r.t.Fatalf("room for %d of %d pages with %d keys", g.Room(), pages, len(r.m))
	}
	r.boot(nil)
}

func bit(is bool) int {
	if is {
		return 1
	}
	return 0
}

// keeps are the lists for n writes that wait: all there are, if n is small, else some of
// each kind: none, all, each so many, one alone, a beginning, all but one, and a page but
// for one sector.
func keeps(n, small int) [][]int {
	if n <= small {
		var all [][]int
		for bits := range 1 << n {
			keep := make([]int, n)
			for i := range keep {
				keep[i] = bits >> i & 1
			}
			all = append(all, keep)
		}
		return all
	}
	some := [][]int{{0}, {1}, {0, 1}, {1, 0}, {1, 1, 0}, {0, 0, 1}, {-1, -2, 2, 3}}
	for i := 0; i < n; i += 1 + n/8 {
		var one, front, others, page []int
		for j := range n {
			one = append(one, bit(j == i))
			front = append(front, bit(j < i))
			others = append(others, bit(j != i))
			page = append(page, bit(j/8 == i/8 && j != i))
		}
		some = append(some, one, front, others, page)
	}
	return some
}

// flushed is what all disks have when the power went off and on, and nothing was kept.
func flushed(t *testing.T, p *plant.Plant) []byte {
	t.Helper()
	q := p.Clone()
	q.Boot(nil)
	var all []byte
	for dev, n := range q.Shape().Disks {
		for place := range n {
			b, e := q.Read(dev, place)
			ok(t, e)
			all = append(all, b...)
		}
	}
	return all
}

// beginner gives runs, each its own, all alike.
type beginner func(t *testing.T) *run

// waits tells for each fuse how many writes wait at the most when a call is cut off: as
// many as steps were done since the last one that changed what is flushed. The last fuse
// does not cut it off.
func waits(t *testing.T, begin beginner, call func(r *run) api.Errno) []int {
	t.Helper()
	var counts []int
	var last []byte
	since := 0
	for fuse := 0; ; fuse++ {
		r := begin(t)
		r.p.Fuse(fuse)
		e := call(r)
		if r.p.On() == (e == api.ErrPower) {
			t.Fatalf("answers %d; the power is on: %v", e, r.p.On())
		}
		now := flushed(t, r.p)
		if fuse > 0 && !bytes.Equal(now, last) {
			since = fuse
		}
		last = now
		counts = append(counts, fuse-since)
		if e != api.ErrPower {
			return counts
		}
	}
}

// parts are the lists for n writes that wait at a fuse. Of a call of many steps there are
// some for each fuse, others for the next one.
func parts(n, small, fuse, steps int) [][]int {
	all := keeps(n, small)
	if steps <= 50 || n <= 2 {
		return all
	}
	return [][]int{{0}, {1}, all[fuse%len(all)], all[fuse*5%len(all)]}
}

// cutOff does a call at each fuse, and crashes with each kind of part kept; what is
// behind it is handed on now and then.
func cutOff(t *testing.T, small int, begin beginner, call func(r *run) api.Errno, behind func(r *run)) {
	t.Helper()
	counts := waits(t, begin, call)
	for fuse, n := range counts {
		for i, keep := range parts(n, small, fuse, len(counts)) {
			r := begin(t)
			r.p.Fuse(fuse)
			call(r)
			r.boot(keep)
			if i%4 == fuse%4 {
				behind(r)
			}
		}
	}
}

// from gives runs of a plant.
func from(t *testing.T, p *plant.Plant, m plain, ahead ...func(r *run)) beginner {
	t.Helper()
	q := p.Clone()
	r := newRun(t, q, m)
	for _, f := range ahead {
		f(r)
	}
	q.Boot(nil) // so that nothing waits
	return func(t *testing.T) *run {
		t.Helper()
		return newRun(t, q.Clone(), r.m)
	}
}

// states are plants with catalogues: in the tree, in the journal, in both, in none; with
// a journal that has no more room, and with a tree that has hardly any.
func states(t *testing.T) map[string]beginner {
	t.Helper()
	long := strings.Repeat("v", 160)
	fill := func(n int) func(r *run) {
		return func(r *run) {
			for i := range n {
				r.apply(set(key(2*i, 24), long[i%20:]))
			}
		}
	}
	checkpoint := func(r *run) { r.checkpoint() }
	some := func(r *run) { r.apply(set(key(0, 24), "new"), gone(key(2, 24)), set("a", "1")) }
	stuff := func(r *run) {
		for i := 0; r.c.journal.Fits(transaction([]api.Change{set("a", long)})); i++ {
			r.apply(set(key(2*(i%5)+4, 24), long[i:]), gone(key(0, 24)))
		}
	}
	p, _ := formatted(t, 64, 386)
	return map[string]beginner{
		"no keys":               from(t, p, plain{}),
		"in the journal":        from(t, p, plain{}, fill(4)),
		"in the tree":           from(t, p, plain{}, fill(7), checkpoint),
		"in both":               from(t, p, plain{}, fill(7), checkpoint, some),
		"a full journal":        from(t, p, plain{}, fill(5), checkpoint, stuff),
		"a full tree":           from(t, p, plain{}, fill(28), checkpoint, some),
		"a full tree, too":      from(t, p, plain{}, fill(28), checkpoint, stuff),
		"a tree that was large": from(t, p, plain{}, fill(28), checkpoint, emptied),
	}
}

// emptied takes keys away.
func emptied(r *run) {
	for i, k := range slices.Sorted(maps.Keys(r.m)) {
		if i%3 > 0 && i < 12 {
			r.apply(gone(k))
		}
	}
}

// applications are changes for Apply.
func applications() map[string][]api.Change {
	long := strings.Repeat("w", 160)
	return map[string][]api.Change{
		"none":     nil,
		"one":      {set("b", "2")},
		"set anew": {set(key(4, 24), long), set(key(0, 24), "")},
		"gone":     {gone(key(4, 24)), gone(key(2, 24)), gone("none")},
		"many":     {set(key(1, 24), long), set(key(4, 24), long), gone(key(6, 24)), set(key(8, 24), long), set("z", long)},
	}
}

// TestApplyCutOff: at each step, in each state: all is done, or nothing.
func TestApplyCutOff(t *testing.T) { // P12.7
	t.Parallel()
	for state, begin := range states(t) {
		for name, l := range applications() {
			t.Run(state+", "+name, func(t *testing.T) {
				t.Parallel()
				cutOff(t, 5, begin, func(r *run) api.Errno { return r.apply(l...) }, (*run).tails)
			})
		}
	}
}

// TestAllPartsKept: of up to ten writes that wait, each part there is.
func TestAllPartsKept(t *testing.T) { // P12.7
	t.Parallel()
	all := states(t)
	for _, state := range []string{"no keys", "in both"} {
		t.Run(state, func(t *testing.T) {
			t.Parallel()
			check := func(r *run) { same(r.t, r.c, r.m) }
			cutOff(t, 9, all[state], func(r *run) api.Errno { return r.apply(applications()["many"]...) }, check)
			cutOff(t, 9, all[state], (*run).checkpoint, check)
		})
	}
}

// TestCheckpointCutOff: at each step, in each state: nothing has changed.
func TestCheckpointCutOff(t *testing.T) { // P12.7
	t.Parallel()
	for state, begin := range states(t) {
		t.Run(state, func(t *testing.T) {
			t.Parallel()
			cutOff(t, 6, begin, (*run).checkpoint, (*run).tails)
		})
	}
}

// TestHalfWay: a Checkpoint that commits more than once on its way, of a tree without
// room, is cut off around each of these commits, and between them, and then the next
// Checkpoint, too.
func TestHalfWay(t *testing.T) { // P12.6, P12.7
	t.Parallel()
	p := made(t, []int{600, 386}, nil)
	ok(t, Format(p, 0, 1))
	begin := from(t, p, plain{}, func(r *run) {
		for i := range 32 {
			r.apply(set(key(2*i, 24), strings.Repeat("v", 160)))
		}
		r.checkpoint()
		for i := range 18 {
			r.apply(gone(key(2*i, 24)), set(key(64-2*i+1, 24), strings.Repeat("w", 160)))
		}
	})
	if n := journalled(t, begin(t).p); n != 18 {
		t.Fatalf("%d transactions: nothing is shown", n)
	}
	cut := func(fuse int, keep []int) *run {
		r := begin(t)
		r.p.Fuse(fuse)
		r.checkpoint()
		r.p.Boot(keep)
		return r
	}
	root, commits := -1, 0
	for fuse := 0; ; fuse++ {
		r := begin(t)
		r.p.Fuse(fuse)
		e := r.checkpoint()
		r.p.Boot(nil)
		g, f := pager.Open(r.p, 1)
		ok(t, f)
		committed := g.Root() != root
		if root = g.Root(); committed {
			commits++
		}
		if committed || fuse%97 == 0 {
			for _, at := range []int{fuse - 3, fuse - 2, fuse - 1, fuse} {
				for _, keep := range [][]int{{0}, {1}, {0, 1, 1}} {
					r := cut(at, keep)
					r.open()
					r.p.Fuse(fuse % 300)
					r.checkpoint()
					r.boot(keep)
					ok(t, r.checkpoint())
					same(t, r.c, r.m)
				}
			}
		}
		if e == api.OK {
			break
		}
	}
	if commits < 4 {
		t.Errorf("%d commits on the way: nothing was shown", commits)
	}
}

// TestOpenCutOff: at each step, in each state: nothing has changed.
func TestOpenCutOff(t *testing.T) { // P12.7
	for state, begin := range states(t) {
		t.Run(state, func(t *testing.T) {
			cutOff(t, 8, begin, (*run).open, (*run).tails)
		})
	}
}

// TestCutOffAgainWhileItOpens: a crash within Apply or Checkpoint, then some within Open,
// with all kinds of parts kept.
func TestCutOffAgainWhileItOpens(t *testing.T) { // P12.7
	t.Parallel()
	all := states(t)
	for _, state := range []string{"in both", "a full journal", "a full tree"} {
		for name, call := range map[string]func(r *run) api.Errno{
			"Apply":      func(r *run) api.Errno { return r.apply(applications()["set anew"]...) },
			"Checkpoint": (*run).checkpoint,
		} {
			t.Run(state+", "+name, func(t *testing.T) {
				t.Parallel()
				begin := all[state]
				counts := waits(t, begin, call)
				for fuse, n := range counts {
					for i, keep := range parts(n, 3, fuse, 999) {
						if n > 4 && (i+fuse)%4 > 0 {
							continue
						}
						for _, again := range [][]int{{0}, {1}} {
							r := begin(t)
							r.p.Fuse(fuse)
							call(r)
							r.p.Boot(keep)
							for cut := range 3 {
								r.p.Fuse((cut + i) % 3)
								r.open()
								r.p.Boot(again)
							}
							r.open()
							same(t, r.c, r.m)
							r.p.Fuse(fuse * 3 % 40)
							r.apply(set("again", "1"))
							r.boot(again)
						}
					}
				}
			})
		}
	}
}

// TestTwoApplysCutOff: what is left of one is never taken for a part of the next one.
func TestTwoApplysCutOff(t *testing.T) { // P12.7
	t.Parallel()
	all := states(t)
	old := []api.Change{set("b", "old"), set(key(4, 24), strings.Repeat("o", 100))}
	next := []api.Change{set("b", "new"), set(key(6, 24), strings.Repeat("n", 100))}
	rows := func(counts []int) int { return max(0, len(counts)-7) } // what is ahead is a Checkpoint's
	for _, state := range []string{"no keys", "in both", "a full journal"} {
		begin := all[state]
		first := waits(t, begin, func(r *run) api.Errno { return r.apply(old...) })
		for fuse := rows(first); fuse < len(first); fuse++ {
			for _, keep := range keeps(first[fuse], 5) {
				after := func(t *testing.T) *run {
					r := begin(t)
					r.p.Fuse(fuse)
					r.apply(old...)
					r.boot(keep)
					return r
				}
				second := waits(t, after, func(r *run) api.Errno { return r.apply(next...) })
				for again := rows(second); again < len(second); again++ {
					for _, part := range [][]int{{0}, {1}, {0, 1}, {1, 0}, {1, 1, 0}} {
						r := after(t)
						r.p.Fuse(again)
						r.apply(next...)
						r.boot(part)
					}
				}
			}
		}
	}
}

// TestFormatCutOff: at each step, of disks that have anything. Open may answer then that
// there is none, or find anything; Format again makes a catalogue without keys.
func TestFormatCutOff(t *testing.T) { // P12.7, P12.1
	t.Parallel()
	for name, p := range fillings(t) {
		t.Run(name, func(t *testing.T) {
			t.Parallel()
			steps := func() int {
				q := p.Clone()
				ok(t, Format(q, 0, 1))
				return q.Steps() - p.Steps()
			}()
			for fuse := range steps + 1 {
				for _, keep := range [][]int{{0}, {1}, {0, 1}, {1, 0, 0}} {
					q := p.Clone()
					q.Fuse(fuse)
					if e := Format(q, 0, 1); (e == api.ErrPower) != (fuse < steps) {
						t.Fatalf("Format of %d steps with fuse %d: %d", steps, fuse, e)
					}
					q.Boot(keep)
					c, e := Open(q, 0, 1)
					if e != api.OK && e != api.ErrCorrupt || (c == nil) != (e != api.OK) {
						t.Fatalf("Open: %d", e)
					}
					if fuse == steps && !(plain{}).like(c) {
						t.Fatalf("there are keys behind Format")
					}
					r := &run{t: t, p: q}
					if fuse%3 == 0 {
						r.p.Fuse(fuse * 5 % steps)
					}
					r.format(keep)
					r.boot(nil)
					r.apply(set("a", "1"))
					r.boot(keep)
				}
			}
		})
	}
}

// ownBytes are changes whose values are pieces of what the disks have.
func ownBytes(g *rand.Rand, p *plant.Plant, k maker, m plain) []api.Change {
	l := k.changes(m)
	for i, x := range l {
		if len(x.Value) == 0 {
			continue
		}
		dev := g.Intn(2)
		b, _ := p.Read(dev, g.Intn(40))
		l[i].Value = b[:min(len(b), len(x.Value))]
	}
	return l
}

// TestAnyCallsWithCrashes: any calls, any crashes.
func TestAnyCallsWithCrashes(t *testing.T) { // P12.1 to P12.7, P12.9
	for seed := range int64(120) {
		g := rand.New(rand.NewSource(seed))
		k := someMaker(g)
		if seed%2 == 0 {
			k.maxKey = 1 // so that there is room
		}
		p, _ := formatted(t, 64+g.Intn(20), 3074)
		r := newRun(t, p, plain{})
		for range 120 {
			if g.Intn(5) == 0 {
				p.Fuse(g.Intn([]int{3, 40, 200}[g.Intn(3)]))
			}
			keep := make([]int, g.Intn(12))
			for i := range keep {
				keep[i] = g.Intn(5) - 2
			}
			switch d := g.Intn(40); {
			case d < 15:
				r.apply(k.changes(r.m)...)
			case d < 25:
				r.apply(ownBytes(g, p, k, r.m)...)
			case d < 32:
				r.checkpoint()
			case d < 38:
				r.open()
			case d < 39:
				p.Boot(keep)
				r.open()
			case g.Intn(4) == 0:
				r.format(keep)
				r.open()
			}
			if !p.On() {
				p.Boot(keep)
				if g.Intn(3) == 0 {
					p.Fuse(g.Intn(3))
					r.open()
					p.Boot(keep)
				}
				r.open()
				same(t, r.c, r.m)
			}
		}
		r.boot(nil)
		same(t, r.c, r.m)
	}
}

// TestOldOnesAreAsked: of what was opened ahead of a Boot nothing is said, but that no
// call of it panics.
func TestOldOnesAreAsked(t *testing.T) { // R3
	for state, begin := range states(t) {
		for fuse := range 30 {
			r := begin(t)
			r.p.Fuse(fuse)
			r.apply(set("b", "2"))
			old := r.c
			r.boot([]int{1, 0})
			r.apply(gone("b"))
			r.checkpoint()
			for i := range 40 {
				old.Get([]byte(key(2*i, 24)))
				old.List(nil)
				if i%9 == 0 {
					old.Checkpoint()
				}
				old.Apply([]api.Change{set(key(i, 24), strings.Repeat("o", 160)), gone(key(2*i, 24))})
			}
			if e := Format(r.p, 0, 1); e != api.OK {
				t.Fatalf("%s: Format: %d", state, e)
			}
			same(t, opens(t, r.p), plain{})
		}
	}
}
