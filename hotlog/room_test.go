package hotlog

import (
	"math/rand"
	"slices"
	"strconv"
	"testing"

	"muniment/api"
	"muniment/plant"
)

// ways goes through all that may be done to a disk by Appends of so many sectors in all,
// with any Frees between.
type ways struct {
	t    *testing.T
	p    *plant.Plant
	seen map[string]int // states that were gone through
}

func stateOf(used []api.Place, left int) string {
	s := strconv.Itoa(left)
	for _, x := range used {
		s += " " + strconv.Itoa(x.At) + "-" + strconv.Itoa(x.Len)
	}
	return s
}

// from goes on from places in use, with so many sectors left to be asked for.
func (w *ways) from(used []api.Place, left int) {
	w.t.Helper()
	state := stateOf(used, left)
	if w.seen[state] > 0 {
		return
	}
	w.seen[state]++
	for cost := 1; cost <= min(left, 9); cost++ {
		h := opens(w.t, w.p, 0, used...)
		x, e := h.Append(ones(64 * (cost - 1)))
		if e != api.OK {
			w.t.Fatalf("%d sectors with %v in use: %d", cost, used, e)
		}
		next := append(slices.Clone(used), x)
		slices.SortFunc(next, func(x, y api.Place) int { return x.At - y.At })
		w.from(next, left-cost)
	}
	for i := range used {
		w.from(slices.Delete(slices.Clone(used), i, i+1), left)
	}
}

// TestEveryWayToFill: disks of one segment and of two, whatever is asked for up to the
// bound, whatever is given up between.
func TestEveryWayToFill(t *testing.T) { // P14.5
	for _, sectors := range []int{16, 31} {
		w := &ways{t: t, p: made(t, []int{sectors}, nil), seen: map[string]int{}}
		w.from(nil, 8)
	}
	w := &ways{t: t, p: made(t, []int{32}, nil), seen: map[string]int{}}
	w.from(nil, 11) // up to 16 it takes a minute: TestRoomToTheBound tries some of those
}

// TestRoomToTheBound: as much as is held for certain, in any order, with Frees, opened
// anew, and with crashes, whose Append counts, too.
func TestRoomToTheBound(t *testing.T) { // P14.5
	for seed := range int64(600) {
		r := rand.New(rand.NewSource(seed))
		segments := 1 + r.Intn(9)
		p := made(t, []int{16*segments + r.Intn(16)}, nil)
		c := newPair(t, p, 0)
		for left := 8 * segments; left > 0; {
			n := 1 + r.Intn(min(left, 9))
			if r.Intn(3) == 0 {
				n = min(left, 9)
			}
			left -= n
			length := max(0, 64*(n-1)-r.Intn(64))
			if r.Intn(10) == 0 {
				p.Fuse(r.Intn(n + 1))
			}
			if e := c.append(someBytes(r, length)); e == api.ErrPower {
				p.Boot([]int{r.Intn(2), r.Intn(2), 1})
				c.reopen(r)
			} else if e != api.OK {
				t.Fatalf("%d segments, %d left: %d sectors: %d", segments, left, n, e)
			}
			for x := range c.m.used {
				if r.Intn(3) == 0 {
					c.free(x)
				}
			}
			if r.Intn(5) == 0 {
				c.reopen(r)
			}
		}
		c.all()
	}
}

// TestEightForEachSegment: without any Free, of all sizes alike.
func TestEightForEachSegment(t *testing.T) { // P14.5
	for cost := 1; cost <= 9; cost++ {
		h := opens(t, made(t, []int{16 * 9}, nil), 0)
		for range 8 * 9 / cost {
			if _, e := h.Append(ones(64 * (cost - 1))); e != api.OK {
				t.Fatalf("of %d sectors: %d", cost, e)
			}
		}
	}
}
