package retain

import (
	"math/rand"
	"testing"

	"muniment/api"
	"muniment/record"
)

func lock(until int) call { return call{kind: 'L', n: until} }
func hold(on bool) call   { return call{kind: 'H', on: on} }
func del(now int) call    { return call{kind: 'D', n: now} }

// states are the record held or not, Gone or not.
func states(r api.Record) []api.Record {
	var l []api.Record
	for i := range 4 {
		r.Hold, r.Gone = i%2 == 1, i/2 == 1
		l = append(l, r)
	}
	return l
}

func allRecords() []api.Record {
	r := rand.New(rand.NewSource(18))
	return append(plainRecords(r), strangeRecords(r)...)
}

func TestExamples(t *testing.T) { // P18.1 to P18.4
	r := api.Record{ID: "a", Expiry: 50, Copies: []api.Place{{Dev: 2, At: 16, Len: 3}, {Dev: 3, Len: 4, Bad: true}}}
	longer, held, gone := r, r, r
	longer.Expiry = 60
	held.Hold = true
	gone.Gone, gone.Copies = true, nil
	answers(t, lock(40), r, r, api.OK)
	answers(t, lock(60), r, longer, api.OK)
	refuses(t, lock(-1), r, api.ErrArg)
	refuses(t, lock(api.MaxClock+1), r, api.ErrArg)
	refuses(t, del(49), r, api.ErrLocked)
	answers(t, del(50), r, gone, api.OK)
	refuses(t, del(50), held, api.ErrLocked)
	refuses(t, lock(60), gone, api.ErrGone)
	refuses(t, hold(true), gone, api.ErrGone)
	refuses(t, hold(false), gone, api.ErrGone)
	refuses(t, del(50), gone, api.ErrGone)
	refuses(t, lock(-1), gone, api.ErrArg)
	tells(t, []api.Record{{ID: "a", Expiry: 50}, {ID: "b", Expiry: 40}, {ID: "c"}, {ID: "d", Expiry: 50, Hold: true}}, 50, "b", "a")
}

func TestErrorsHaveTheirNumbers(t *testing.T) { // P18.1 to P18.3
	if api.ErrArg != 1 || api.ErrGone != 213 || api.ErrLocked != 214 {
		t.Fatal("other numbers")
	}
}

// locks fails, unless Lock is as P18.1 says, read off case by case.
func locks(t *testing.T, r api.Record, until int) {
	t.Helper()
	want := r
	switch {
	case until < 0 || until > 1<<40:
		refuses(t, lock(until), r, api.ErrArg)
		return
	case r.Gone:
		refuses(t, lock(until), r, api.ErrGone)
		return
	case until > r.Expiry:
		want.Expiry = until
	}
	answers(t, lock(until), r, want, api.OK)
}

func TestLockAtAllEdges(t *testing.T) { // P18.1
	for _, x := range allRecords() {
		for _, expiry := range edges() {
			x.Expiry = expiry
			for _, r := range states(x) {
				for _, until := range about(expiry) {
					locks(t, r, until)
				}
			}
		}
	}
}

func TestLockOfWrongTimes(t *testing.T) { // P18.1
	for bit := range 64 {
		for _, until := range []int{-1 << bit, 1<<bit + api.MaxClock, -1<<bit - 1} {
			if until >= 0 && until <= api.MaxClock {
				continue
			}
			for _, r := range states(api.Record{ID: "a", Length: 3, Expiry: 50}) {
				refuses(t, lock(until), r, api.ErrArg)
			}
		}
	}
}

func TestLockByChance(t *testing.T) { // P18.1
	rnd := rand.New(rand.NewSource(1))
	for range 20000 {
		r := states(api.Record{ID: "a", Expiry: someTime(rnd), Copies: somePlaces(rnd, rnd.Intn(10))})[rnd.Intn(4)]
		locks(t, r, someTime(rnd))
	}
}

// someTime is one of few, or of all that there may be, or any number.
func someTime(r *rand.Rand) int {
	switch r.Intn(4) {
	case 0:
		return r.Intn(8) - 2
	case 1:
		return r.Intn(api.MaxClock + 1)
	case 2:
		return edges()[r.Intn(len(edges()))]
	}
	return int(r.Uint64())
}

func TestHold(t *testing.T) { // P18.2
	for _, x := range allRecords() {
		for _, expiry := range edges() {
			x.Expiry = expiry
			for _, r := range states(x) {
				for _, on := range []bool{false, true} {
					if r.Gone {
						refuses(t, hold(on), r, api.ErrGone)
						continue
					}
					want := r
					want.Hold = on
					answers(t, hold(on), r, want, api.OK)
				}
			}
		}
	}
}

// deletes fails, unless Delete is as P18.3 says, read off case by case.
func deletes(t *testing.T, r api.Record, now int) {
	t.Helper()
	want := r
	want.Gone, want.Copies = true, nil
	switch {
	case r.Gone:
		refuses(t, del(now), r, api.ErrGone)
	case r.Hold, r.Expiry > now:
		refuses(t, del(now), r, api.ErrLocked)
	default:
		answers(t, del(now), r, want, api.OK)
	}
}

func TestDeleteAtAllEdges(t *testing.T) { // P18.3
	for _, x := range allRecords() {
		for _, expiry := range edges() {
			x.Expiry = expiry
			for _, r := range states(x) {
				for _, now := range about(expiry) {
					deletes(t, r, now)
				}
			}
		}
	}
}

func TestDeleteByChance(t *testing.T) { // P18.3
	rnd := rand.New(rand.NewSource(2))
	for range 20000 {
		r := states(api.Record{ID: "a", Expiry: someTime(rnd), Copies: somePlaces(rnd, rnd.Intn(10))})[rnd.Intn(4)]
		deletes(t, r, someTime(rnd))
	}
}

// TestOfOneNeverLocked: Expiry 0 is a lock that ended, but not for a clock below 0.
func TestOfOneNeverLocked(t *testing.T) { // P18.3
	r := api.Record{ID: "a", Copies: []api.Place{{Dev: 2}}}
	answers(t, del(0), r, api.Record{ID: "a", Gone: true}, api.OK)
	answers(t, del(api.MaxClock), r, api.Record{ID: "a", Gone: true}, api.OK)
	refuses(t, del(-1), r, api.ErrLocked)
	r.Expiry = -5
	refuses(t, del(-6), r, api.ErrLocked)
	answers(t, del(-5), r, api.Record{ID: "a", Expiry: -5, Gone: true}, api.OK)
}

func TestStrangeRecordsAreSuchAsEncodeRefuses(t *testing.T) { // P18.1 to P18.4
	rnd := rand.New(rand.NewSource(3))
	for _, r := range strangeRecords(rnd) {
		if _, e := record.Encode(r); e != api.ErrRecord {
			t.Errorf("%+v may be written", r)
		}
	}
	for _, r := range plainRecords(rnd) {
		if _, e := record.Encode(r); e != api.OK {
			t.Errorf("%+v may not be written", r)
		}
	}
}

// TestAnswersOfOneRecordAreApart: what is done with an answer is not seen in the record,
// nor in the answer of another call.
func TestAnswersOfOneRecordAreApart(t *testing.T) { // R6
	r := withRoom(api.Record{ID: "a", Expiry: 50, Copies: []api.Place{{Dev: 2, Len: 3}, {Dev: 3, At: 9, Bad: true}}})
	was := roomOf(r)
	for _, first := range []call{lock(0), lock(60), hold(true), hold(false)} {
		for _, second := range []call{lock(0), lock(60), hold(true), hold(false), del(50)} {
			x, _ := first.of(r)
			y, _ := second.of(r)
			z, _ := second.of(x)
			seenY, seenZ := roomOf(y), roomOf(z)
			spoil(x)
			if !sameRecord(roomOf(r), was) || !sameRecord(roomOf(y), seenY) || !sameRecord(roomOf(z), seenZ) {
				t.Fatalf("%+v, then %+v: they share memory", first, second)
			}
			_ = append(y.Copies, api.Place{Dev: 99})
			if !sameRecord(roomOf(r), was) || !sameRecord(roomOf(z), seenZ) {
				t.Fatalf("%+v, then %+v: they share room", first, second)
			}
		}
	}
}
