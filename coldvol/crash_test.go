package coldvol

import (
	"bytes"
	"math/rand"
	"testing"

	"muniment/api"
)

// keeps are lists for n writes that wait, such that a tape keeps each beginning of them,
// with the next one lost, or torn.
func keeps(n int) [][]int {
	var all [][]int
	for kept := range n {
		keep := make([]int, n)
		for i := range kept {
			keep[i] = 1
		}
		all = append(all, keep)
		torn := append([]int(nil), keep...)
		torn[kept] = 2
		all = append(all, torn)
	}
	whole := make([]int, max(n, 1))
	for i := range whole {
		whole[i] = 1
	}
	return append(all, whole)
}

// begun is a tape with objects that were flushed, and some that wait.
func begun(t *testing.T, size int, waiting ...int) *world {
	t.Helper()
	r := rand.New(rand.NewSource(10))
	w := newWorld(t, size)
	w.append(0, "kept", someBytes(r, 100))
	w.append(0, "none", nil)
	w.flush(0)
	for _, n := range waiting {
		w.append(0, "waits", someBytes(r, n))
	}
	return w
}

// cutOff does a call at each fuse till it is not cut off any more, and crashes with each
// part kept. It tells how often the call was cut off.
func cutOff(t *testing.T, begin func() *world, do func(w *world) api.Errno, then func(w *world)) int {
	t.Helper()
	for fuse := 0; ; fuse++ {
		e := api.OK
		for i := 0; ; i++ {
			w := begin()
			w.p.Fuse(fuse)
			e = do(w)
			all := keeps(len(w.waits))
			if i >= len(all) {
				break
			}
			w.boot(all[i])
			then(w)
		}
		if e != api.ErrPower {
			return fuse
		}
	}
}

// goesOn holds that a tape is as the plain one, and goes on as that does.
func goesOn(w *world) {
	w.t.Helper()
	w.look(0)
	w.append(0, "next", ones(60))
	w.look(0)
	w.flush(0)
	w.boot(nil)
	w.look(0)
	w.append(0, "next", nil)
	w.append(0, "more", ones(300))
	w.seal(0)
	w.look(0)
	w.boot(nil)
	w.look(0)
}

// TestAppendCutOff: at each step, with each part kept, of what waits ahead of it too.
func TestAppendCutOff(t *testing.T) { // P15.7
	for _, n := range []int{0, 1, 56, 57, 200, 512} {
		begin := func() *world { return begun(t, 60, 30, 0) }
		do := func(w *world) api.Errno { return w.append(0, "mine", ones(n)) }
		if fuse := cutOff(t, begin, do, goesOn); fuse != blocksOf(n) {
			t.Errorf("%d bytes: %d steps", n, fuse)
		}
	}
}

// TestFlushCutOff: what was appended ahead of it is there in part.
func TestFlushCutOff(t *testing.T) { // P15.3, P15.7
	begin := func() *world { return begun(t, 60, 57, 0, 112) }
	do := func(w *world) api.Errno { return w.flush(0) }
	if fuse := cutOff(t, begin, do, goesOn); fuse != 1 {
		t.Errorf("%d steps", fuse)
	}
}

// TestSealCutOff: sealed, with the root of all that was there, or not; with more blocks
// left than the end takes, and with just two.
func TestSealCutOff(t *testing.T) { // P15.6, P15.7
	for _, size := range []int{60, 18, 15, 14} {
		for _, waiting := range [][]int{nil, {0}, {57, 0}} {
			begin := func() *world { return begun(t, size, waiting...) }
			do := func(w *world) api.Errno { return w.seal(0) }
			cutOff(t, begin, do, goesOn)
		}
	}
	empty := func() *world { return newWorld(t, 2) }
	do := func(w *world) api.Errno { return w.seal(0) }
	if fuse := cutOff(t, empty, do, goesOn); fuse != 3 {
		t.Errorf("%d steps", fuse)
	}
}

// TestSealedStaysSealed: behind any crash, opened as often as one likes.
func TestSealedStaysSealed(t *testing.T) { // P15.6, P15.7
	for _, keep := range [][]int{nil, {1}, {2}, {1, 2}, {1, 0}} {
		w := begun(t, 40, 30)
		ok(t, w.seal(0))
		for range 3 {
			w.look(0)
			w.seal(0)
			w.append(0, "a", nil)
			w.flush(0)
			w.boot(keep)
			if w.plain[0].sealed == nil {
				t.Fatal("it was sealed")
			}
		}
	}
}

// TestCutOffAgainAndAgain: each Append is cut off, and what it left stays, and ends the
// List.
func TestCutOffAgainAndAgain(t *testing.T) { // P15.5, P15.7
	for _, keep := range [][]int{{1}, {1, 2}, {1, 1, 2}, {2}, {1, 1, 0}, {0}} {
		for fuse := range 7 {
			w := begun(t, 100)
			for range 6 {
				w.p.Fuse(fuse)
				w.append(0, "again", ones(200))
				w.boot(keep)
				w.look(0)
			}
			goesOn(w)
		}
	}
}

// TestAnyCallsWithCrashes: two tapes of one plant in turns, any calls, any crashes.
func TestAnyCallsWithCrashes(t *testing.T) { // P15.1 to P15.8
	sealed := 0
	for seed := range int64(400) {
		r := rand.New(rand.NewSource(seed))
		w := newWorld(t, 10+r.Intn(150), 10+r.Intn(300))
		for range 60 {
			if r.Intn(5) == 0 {
				w.p.Fuse(r.Intn(20))
			}
			k := r.Intn(2)
			switch n := r.Intn(80); {
			case n < 40:
				w.append(k, someName(r), someBytes(r, someLength(r)))
			case n < 50:
				w.read(k, w.somePlace(r))
			case n < 60:
				w.flush(k)
			case n < 76:
				w.look(k)
			case n < 79:
				w.reopen()
			default:
				w.seal(k)
			}
			if w.p.On() && r.Intn(20) > 0 {
				continue
			}
			keep := make([]int, r.Intn(12))
			for i := range keep {
				keep[i] = []int{1, 1, 1, -1, 3, 0, 2, -2, -4, 6}[r.Intn(10)]
			}
			w.boot(keep)
			w.look(0)
			w.look(1)
		}
		for _, m := range w.plain {
			if m.sealed != nil {
				sealed++
			}
		}
	}
	if sealed < 50 {
		t.Errorf("only %d were sealed", sealed)
	}
}

// TestOldOnesDoNotPanic: objects that the power went off for, or that were opened ahead
// of a Boot; those that were opened behind it do not mind.
func TestOldOnesDoNotPanic(t *testing.T) { // R3
	p, v := one(t, 40)
	appends(t, v, "a", ones(5), at(0, 3))
	ok(t, v.Flush())
	p.Fuse(1)
	if _, e := v.Append("b", ones(100)); e != api.ErrPower {
		t.Fatal("the power is on")
	}
	for range 3 {
		v.Read(at(0, 3))
		v.List()
		v.Room()
		v.Root()
		v.Append("b", ones(100))
		v.Seal()
		v.Flush()
		p.Boot([]int{1})
		w := opens(t, p, 0)
		reads(t, w, at(0, 3), "a", ones(5))
	}
}

// TestTornHasNoTag: an object whose bytes are noughts, or whose lost half looks like what
// is left of it, is not there when its last block was torn.
func TestTornHasNoTag(t *testing.T) { // P15.4, P15.7
	for n := range 513 {
		p, v := one(t, 20)
		x, e := v.Append("a", make([]byte, n))
		ok(t, e)
		keep := append(bytes.Repeat([]byte{1}, x.Len-1), 2)
		var l []int
		for _, k := range keep {
			l = append(l, int(k))
		}
		p.Boot(l)
		if lengthOf(t, p, 0) != x.Len {
			t.Fatal("it was not torn")
		}
		v = opens(t, p, 0)
		readsNot(t, v, x, api.ErrCorrupt)
		lists(t, v)
	}
}
