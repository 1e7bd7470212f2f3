package btree

import (
	"maps"
	"math/rand"
	"slices"
	"strings"
	"testing"

	"muniment/api"
	"muniment/plant"
)

// run does calls to the tree of a disk, and knows what a tree that is opened anew may
// have: with a Commit that was cut off at hand one of two.
type run struct {
	t   *testing.T
	p   *plant.Plant
	x   *Tree
	m   plain   // what x has
	may []plain // what Open may find
}

// newRun is of a plant whose disk has a tree with these pairs, committed.
func newRun(t *testing.T, p *plant.Plant, m plain) *run {
	t.Helper()
	r := &run{t: t, p: p, may: []plain{m}}
	r.open()
	return r
}

// open settles which of the trees it is.
func (r *run) open() {
	r.t.Helper()
	_, r.x = opens(r.t, r.p)
	for _, m := range r.may {
		if m.like(r.x) {
			r.m, r.may = maps.Clone(m), []plain{m}
			return
		}
	}
	l, e := r.x.List(nil, nil)
	r.t.Fatalf("opened anew: %d, %x; none of %d that may be", e, told(l), len(r.may))
}

// boot crashes, and opens.
func (r *run) boot(keep []int) {
	r.t.Helper()
	r.p.Boot(keep)
	r.open()
}

func (r *run) put(key, value string) api.Errno {
	r.t.Helper()
	if !r.p.On() {
		r.t.Fatalf("asked without power")
	}
	e := r.x.Put([]byte(key), []byte(value))
	if e == api.OK {
		r.m[key] = value
	} else if e != api.ErrPower {
		r.t.Fatalf("Put(%x): %d", key, e)
	}
	return e
}

func (r *run) delete(key string) api.Errno {
	r.t.Helper()
	_, was := r.m[key]
	is, e := r.x.Delete([]byte(key))
	if e == api.OK && is == was {
		delete(r.m, key)
	} else if e != api.ErrPower || is {
		r.t.Fatalf("Delete(%x): %v, %d; want %v", key, is, e, was)
	}
	return e
}

func (r *run) commit() api.Errno {
	r.t.Helper()
	e := r.x.Commit()
	switch e {
	case api.OK:
		r.may = []plain{maps.Clone(r.m)}
	case api.ErrPower:
		r.may = append(r.may, maps.Clone(r.m))
	default:
		r.t.Fatalf("Commit: %d", e)
	}
	return e
}

// tails is what is done behind a crash, to see that what was left there is nobody's
// any more.
func (r *run) tails() {
	r.t.Helper()
	pages := r.p.Shape().Disks[0] / 8
	r.open()
	takes(r.t, r.x, r.m)
	if room := r.x.g.Room(); room < pages-len(r.m) {
		r.t.Fatalf("room for %d of %d pages with %d keys", room, pages, len(r.m))
	}
	for i := range 3 {
		r.put(counted(5*i, 20), strings.Repeat("t", 150))
	}
	r.boot([]int{1})
	for _, key := range slices.Sorted(maps.Keys(r.m))[len(r.m)/2:] {
		r.delete(key)
	}
	r.put("tail", "")
	r.commit()
	commits(r.t, r.x, r.m, pages)
	r.boot(nil)
	r.boot(nil)
}

// keeps are the lists for n writes that wait: all there are, if n is small, else some
// of each kind: none, all, each so many, one alone, a beginning, all but
// one, and a page but for one sector.
func keeps(n int) [][]int {
	if n <= 5 {
		var all [][]int
		for bits := range 1 << n {
			keep := make([]int, n)
			for i := range keep {
				keep[i] = bits >> i & 1
			}
			all = append(all, keep)
		}
		return all
	}
	some := [][]int{{0}, {1}, {0, 1}, {1, 0}, {1, 1, 0}, {0, 0, 1}, {-1, -2, 2, 3}}
	for i := 0; i < n; i += 1 + n/10 {
		var one, front, others, page []int
		for j := range n {
			one = append(one, bit(j == i))
			front = append(front, bit(j < i))
			others = append(others, bit(j != i))
			page = append(page, bit(j/8 == i/8 && j != i))
		}
		some = append(some, one, front, others, page)
	}
	return some
}

func bit(is bool) int {
	if is {
		return 1
	}
	return 0
}

// cutOff does a call at each fuse till it is not cut off any more, and crashes with
// each kind of part kept. Ahead of it so many writes wait.
func cutOff(t *testing.T, waiting int, begin func() *run, call func(r *run) api.Errno) {
	t.Helper()
	for fuse := 0; ; fuse++ {
		var e api.Errno
		for _, keep := range keeps(waiting + fuse) {
			r := begin()
			r.p.Fuse(fuse)
			e = call(r)
			if r.p.On() == (e == api.ErrPower) {
				t.Fatalf("answers %d; the power is on: %v", e, r.p.On())
			}
			r.boot(keep)
			r.tails()
		}
		if e != api.ErrPower {
			return
		}
	}
}

// base is a disk of 40 pages with a tree of two levels, committed twice, so that there
// are pages of an older tree too.
func base(t *testing.T) (*plant.Plant, plain) {
	t.Helper()
	p, _, x := formatted(t, 40)
	m := plain{}
	for i := range 9 {
		puts(t, x, counted(2*i, 24), strings.Repeat("o", 160))
	}
	ok(t, x.Commit())
	for i := range 9 {
		puts(t, x, counted(2*i, 24), strings.Repeat("v", 160-i))
		m[counted(2*i, 24)] = strings.Repeat("v", 160-i)
	}
	ok(t, x.Commit())
	if root, _ := x.top(); root.level == 0 {
		t.Fatalf("a leaf alone")
	}
	return p, m
}

// begins gives runs of base's disk, each with what was done ahead of the call, and how
// many writes of that wait.
func begins(t *testing.T, ahead func(r *run)) (int, func() *run) {
	t.Helper()
	p, m := base(t)
	begin := func() *run {
		r := newRun(t, p.Clone(), m)
		ahead(r)
		return r
	}
	r := begin()
	return r.p.Steps() - p.Steps(), begin
}

// aheads are what may have been done, and not committed.
func aheads() map[string]func(r *run) {
	return map[string]func(r *run){
		"nothing": func(r *run) {},
		"a Put":   func(r *run) { r.put(counted(3, 24), "new") },
		"a Delete, a Put": func(r *run) {
			r.delete(counted(4, 24))
			r.put(counted(6, 24), "other")
		},
	}
}

func TestPutCutOff(t *testing.T) { // P10.8
	t.Parallel()
	for name, ahead := range aheads() {
		t.Run(name, func(t *testing.T) {
			waiting, begin := begins(t, ahead)
			for _, key := range []string{counted(7, 24), counted(8, 24)} {
				cutOff(t, waiting, begin, func(r *run) api.Errno { return r.put(key, strings.Repeat("w", 160)) })
			}
		})
	}
}

func TestDeleteCutOff(t *testing.T) { // P10.8
	t.Parallel()
	for name, ahead := range aheads() {
		t.Run(name, func(t *testing.T) {
			waiting, begin := begins(t, ahead)
			for _, i := range []int{0, 10} {
				cutOff(t, waiting, begin, func(r *run) api.Errno { return r.delete(counted(i, 24)) })
			}
		})
	}
}

func TestCommitCutOff(t *testing.T) { // P10.8
	t.Parallel()
	calls := aheads()
	calls["many"] = func(r *run) {
		for i := range 6 {
			r.put(counted(2*i+1, 24), strings.Repeat("w", 30*i))
			r.delete(counted(2*i, 24))
		}
	}
	calls["all deleted"] = func(r *run) {
		for _, key := range slices.Sorted(maps.Keys(r.m)) {
			r.delete(key)
		}
	}
	for name, ahead := range calls {
		t.Run(name, func(t *testing.T) {
			waiting, begin := begins(t, ahead)
			cutOff(t, waiting, begin, (*run).commit)
		})
	}
}

// TestFirstCommitCutOff: of a tree that had no key, and of one that has none again.
func TestFirstCommitCutOff(t *testing.T) { // P10.8
	p, _, _ := formatted(t, 20)
	for _, ahead := range []func(r *run){
		func(r *run) {},
		func(r *run) { r.put("a", "1") },
		func(r *run) { r.put("a", "1"); r.put("b", "2"); r.delete("a"); r.delete("b") },
	} {
		begin := func() *run {
			r := newRun(t, p.Clone(), plain{})
			ahead(r)
			return r
		}
		cutOff(t, begin().p.Steps()-p.Steps(), begin, (*run).commit)
	}
}

// TestCutOffTwice: a row of calls, cut off anywhere, then another one of the next boot.
func TestCutOffTwice(t *testing.T) { // P10.8
	t.Parallel()
	p, m := base(t)
	row := func(r *run, i int) {
		for _, call := range []func() api.Errno{
			func() api.Errno { return r.put(counted(i, 24), strings.Repeat("w", 100)) },
			func() api.Errno { return r.delete(counted(8, 24)) },
			r.commit,
			func() api.Errno { return r.put(counted(i+2, 24), strings.Repeat("w", 10)) },
			r.commit,
		} {
			if call() != api.OK {
				return
			}
		}
	}
	for fuse := range 70 {
		for _, keep := range [][]int{{0}, {1}, {1, 0}, {0, 1, 1}} {
			first := newRun(t, p.Clone(), m)
			first.p.Fuse(fuse)
			row(first, 5)
			first.boot(keep)
			for again := fuse % 7; again < 70; again += 7 {
				r := newRun(t, first.p.Clone(), first.may[0])
				r.p.Fuse(again)
				row(r, 9)
				r.boot(keep)
				r.boot(nil)
				if again%2 == 0 {
					r.tails()
				}
			}
		}
	}
}

// TestAnyCallsWithCrashes: any calls, any crashes.
func TestAnyCallsWithCrashes(t *testing.T) { // P10.1 to P10.8
	for seed := range int64(150) {
		g := rand.New(rand.NewSource(seed))
		k := someMaker(g)
		p, _, _ := formatted(t, 384)
		r := newRun(t, p, plain{})
		for range 150 {
			if g.Intn(6) == 0 {
				p.Fuse(g.Intn(60))
			}
			switch c := g.Intn(20); {
			case c < 10:
				r.put(k.known(r.m), k.value())
			case c < 15:
				r.delete(k.known(r.m))
			case c < 18:
				r.commit()
			case c < 19:
				r.open()
			default:
				p.Fuse(0)
				p.Flush(0)
			}
			if p.On() {
				continue
			}
			keep := make([]int, g.Intn(12))
			for i := range keep {
				keep[i] = g.Intn(5) - 2
			}
			r.boot(keep)
			same(t, r.x, r.m)
			if len(nodesOf(t, r.x)) > len(r.m) {
				t.Fatalf("more pages than keys behind a crash")
			}
		}
		r.boot(nil)
		same(t, r.x, r.m)
	}
}

// TestOpenDoesNoStep: nor do Get and List, so that no crash is within them.
func TestOpenDoesNoStep(t *testing.T) { // P10.8
	p, m := base(t)
	steps := p.Steps()
	_, x := opens(t, p)
	same(t, x, m)
	if p.Steps() != steps {
		t.Errorf("asking did a step")
	}
}
