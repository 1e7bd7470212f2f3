package retain

import (
	"math/rand"
	"slices"
	"testing"

	"muniment/api"
)

// step does the next call on what the row has come to, and holds the answer against the
// account. It answers what the record is then.
func step(t *testing.T, a *account, now api.Record, c call) api.Record {
	t.Helper()
	code := a.code(c)
	a.row = append(a.row, c)
	if code != api.OK {
		refuses(t, c, now, code)
		if want := a.record(); !sameRecord(now, want) {
			t.Fatalf("%+v of %+v: %+v; want %+v", a.row, a.start, now, want)
		}
		return now
	}
	answers(t, c, now, a.record(), api.OK)
	then, _ := c.of(now)
	if then.Expiry < now.Expiry || now.Gone && !sameRecord(then, now) {
		t.Fatalf("%+v of %+v: %+v came behind %+v", a.row, a.start, then, now)
	}
	return then
}

// TestAllShortRows: each row of up to four calls of each kind, from records of each kind.
func TestAllShortRows(t *testing.T) { // P18.5
	calls := []call{lock(-1), lock(0), lock(1), lock(3), lock(api.MaxClock + 1), hold(true), hold(false), del(0), del(1), del(2), del(3)}
	for _, expiry := range []int{-1, 0, 2} {
		for _, start := range states(api.Record{ID: "a", Length: 3, Expiry: expiry, Copies: []api.Place{{Dev: 2, Len: 3}}}) {
			var each func(row []call, now api.Record)
			each = func(row []call, now api.Record) {
				if len(row) == 4 {
					return
				}
				for _, c := range calls {
					a := account{start, slices.Clone(row)}
					then := step(t, &a, now, c)
					each(a.row, then)
				}
			}
			each(nil, start)
		}
	}
}

// someCall is of any kind, with times of which many are near one another.
func someCall(r *rand.Rand) call {
	switch r.Intn(5) {
	case 0, 1:
		return lock(someTime(r))
	case 2:
		return hold(r.Intn(3) == 0)
	}
	return del(r.Intn(10) - 2)
}

func TestLongRows(t *testing.T) { // P18.5
	rnd := rand.New(rand.NewSource(4))
	gone := 0
	for range 1000 {
		now := states(api.Record{ID: "a", Expiry: someTime(rnd), Copies: somePlaces(rnd, rnd.Intn(4))})[rnd.Intn(2)]
		a := account{start: now}
		for range 40 {
			c := someCall(rnd)
			if rnd.Intn(4) == 0 {
				c = del(now.Expiry - rnd.Intn(2))
			}
			now = step(t, &a, now, c)
		}
		if now.Gone {
			gone++
		}
	}
	if gone < 200 || gone > 990 {
		t.Errorf("%d of 1000 are Gone: the rows are not of all kinds", gone)
	}
}

// TestGoneJustBehindTheFirstDelete (P18.5): a Delete that is refused leaves nothing
// behind, and one that is not leaves nothing to be done.
func TestGoneJustBehindTheFirstDelete(t *testing.T) {
	r := api.Record{ID: "a", Expiry: 10, Copies: []api.Place{{Dev: 2, Len: 3}}}
	a, now := account{start: r}, r
	for _, c := range []call{del(9), hold(true), del(10), del(11), hold(false), lock(20), lock(15), del(19)} {
		if now = step(t, &a, now, c); now.Gone || len(now.Copies) != 1 {
			t.Fatalf("behind %+v: %+v", c, now)
		}
	}
	want := api.Record{ID: "a", Expiry: 20, Gone: true}
	for _, c := range []call{del(20), del(21), lock(30), hold(true), hold(false), lock(-1), del(0)} {
		if now = step(t, &a, now, c); !sameRecord(now, want) {
			t.Fatalf("behind %+v: %+v", c, now)
		}
	}
}
