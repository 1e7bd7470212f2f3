package retain

import (
	"bytes"
	"math"
	"math/rand"
	"slices"
	"strings"
	"testing"

	"muniment/api"
)

// call is a Lock, a Hold or a Delete, with what it is asked.
type call struct {
	kind byte // 'L', 'H' or 'D'
	n    int  // until, or now
	on   bool
}

func (c call) of(r api.Record) (api.Record, api.Errno) {
	switch c.kind {
	case 'L':
		return Lock(r, c.n)
	case 'H':
		return Hold(r, c.on)
	}
	return Delete(r, c.n)
}

// account is what is promised of a record behind a row of calls. It keeps no state: all
// is read out of the whole row each time.
type account struct {
	start api.Record
	row   []call
}

// deleted is the number of the Delete that made it Gone, or -1.
func (a account) deleted() int {
	for i, c := range a.row {
		if before := (account{a.start, a.row[:i]}); c.kind == 'D' && !before.held() && before.expiry() <= c.n {
			return i
		}
	}
	return -1
}

// live are the calls that had anything to say, if the object was not Gone by then.
func (a account) live() []call {
	if a.start.Gone {
		return nil
	}
	return a.row
}

func (a account) held() bool {
	held := a.start.Hold
	for _, c := range a.live() {
		if c.kind == 'H' {
			held = c.on
		}
	}
	return held
}

func (a account) expiry() int {
	l := []int{a.start.Expiry}
	for _, c := range a.live() {
		if c.kind == 'L' && c.n >= 0 && c.n <= api.MaxClock {
			l = append(l, c.n)
		}
	}
	return slices.Max(l)
}

// record is what it is now.
func (a account) record() api.Record {
	r := a.start
	if r.Gone {
		return r
	}
	if i := a.deleted(); i >= 0 {
		then := account{a.start, a.row[:i]}
		r.Expiry, r.Hold, r.Gone, r.Copies = then.expiry(), then.held(), true, nil
		return r
	}
	r.Expiry, r.Hold = a.expiry(), a.held()
	return r
}

// code is what the next call answers.
func (a account) code(c call) api.Errno {
	now := a.record()
	switch {
	case c.kind == 'L' && (c.n < 0 || c.n > 1<<40):
		return api.ErrArg
	case now.Gone:
		return api.ErrGone
	case c.kind == 'D' && (now.Hold || now.Expiry > c.n):
		return api.ErrLocked
	}
	return api.OK
}

// plainDue counts the IDs of each Expiry that is met, one Expiry behind the other.
func plainDue(l []api.Record, now int) []string {
	told := map[int]map[string]int{}
	for _, r := range l {
		if r.Gone || r.Hold || r.Expiry < 1 || r.Expiry > now {
			continue
		}
		if told[r.Expiry] == nil {
			told[r.Expiry] = map[string]int{}
		}
		told[r.Expiry][r.ID]++
	}
	var ids []string
	for len(told) > 0 {
		least := math.MaxInt
		for x := range told {
			least = min(least, x)
		}
		ids = append(ids, plainSorted(told[least])...)
		delete(told, least)
	}
	return ids
}

// plainSorted takes the least one away, as often as it is there, until none is left.
func plainSorted(count map[string]int) []string {
	var ids []string
	for len(count) > 0 {
		first := true
		var least string
		for id := range count {
			if first || bytesBelow([]byte(id), []byte(least)) {
				least, first = id, false
			}
		}
		for range count[least] {
			ids = append(ids, least)
		}
		delete(count, least)
	}
	return ids
}

func bytesBelow(a, b []byte) bool {
	for i := range min(len(a), len(b)) {
		if a[i] != b[i] {
			return a[i] < b[i]
		}
	}
	return len(a) < len(b)
}

func sameRecord(a, b api.Record) bool {
	return a.ID == b.ID && a.Length == b.Length && bytes.Equal(a.Root[:], b.Root[:]) && a.Index == b.Index &&
		a.Expiry == b.Expiry && a.Hold == b.Hold && a.Gone == b.Gone && slices.Equal(a.Copies, b.Copies)
}

// withRoom is the record with Copies of its own, and others behind their length.
func withRoom(r api.Record) api.Record {
	l := append(slices.Clone(r.Copies), api.Place{Dev: 7, At: 8, Len: 9}, api.Place{Dev: -1, Bad: true})
	r.Copies = l[:len(l)-2]
	return r
}

// roomOf is the record with its Copies' spare room told as Copies, too.
func roomOf(r api.Record) api.Record {
	r.Copies = slices.Clone(r.Copies[:cap(r.Copies)])
	return r
}

// spoil turns all Copies, those of the spare room too.
func spoil(r api.Record) {
	l := r.Copies[:cap(r.Copies)]
	for i := range l {
		l[i] = api.Place{Dev: ^l[i].Dev, At: ^l[i].At, Len: ^l[i].Len, Bad: !l[i].Bad}
	}
}

// answers fails, unless the call answers just this, changes nothing of what is handed in,
// and shares no memory with it, nor with the answer of the call when it is asked again.
func answers(t *testing.T, c call, r, want api.Record, code api.Errno) {
	t.Helper()
	in := withRoom(r)
	was := roomOf(in)
	x, e := c.of(in)
	if !sameRecord(x, want) || e != code {
		t.Fatalf("%c %d %v of %+v: %+v, %d; want %+v, %d", c.kind, c.n, c.on, r, x, e, want, code)
	}
	y, f := c.of(in)
	spoil(x)
	if !sameRecord(roomOf(in), was) {
		t.Fatalf("%c %d %v of %+v: what was handed in is %+v now", c.kind, c.n, c.on, r, in)
	}
	spoil(in)
	if !sameRecord(y, want) || f != code {
		t.Fatalf("%c %d %v of %+v, again: %+v, %d; want %+v, %d", c.kind, c.n, c.on, r, y, f, want, code)
	}
}

// refuses fails, unless the call answers the error and nothing beside it.
func refuses(t *testing.T, c call, r api.Record, code api.Errno) {
	t.Helper()
	answers(t, c, r, api.Record{}, code)
}

// tells fails, unless Due tells just these, changes nothing of the list, reads nothing
// behind it, and shares no memory with the answer of the call when it is asked again.
func tells(t *testing.T, l []api.Record, now int, want ...string) {
	t.Helper()
	all := make([]api.Record, 0, len(l)+1)
	for _, r := range l {
		all = append(all, withRoom(r))
	}
	all = append(all, api.Record{ID: "behind", Expiry: 1})
	was := make([]api.Record, 0, len(all))
	for _, r := range all {
		was = append(was, roomOf(r))
	}
	in := all[:len(l)]
	x, y := Due(in, now), Due(in, now)
	if !slices.Equal(x, want) {
		t.Fatalf("Due(%+v, %d): %q; want %q", l, now, x, want)
	}
	x = x[:cap(x)]
	for i := range x {
		x[i] = "spoiled"
	}
	for i, r := range all {
		if !sameRecord(roomOf(r), was[i]) {
			t.Fatalf("Due(%+v, %d): record %d is %+v now", l, now, i, r)
		}
	}
	for i := range all {
		all[i] = api.Record{ID: "spoiled"}
	}
	if !slices.Equal(y, want) {
		t.Fatalf("Due(%+v, %d), again: %q; want %q", l, now, y, want)
	}
}

// edges are numbers about which a call may change its mind, and those at an int's ends.
func edges() []int {
	return []int{
		math.MinInt, math.MinInt + 1, math.MinInt32, -api.MaxClock - 1, -api.MaxClock, -2, -1, 0, 1, 2, 49, 50, 51,
		math.MaxInt32, math.MaxInt32 + 1, math.MaxUint32, api.MaxClock - 1, api.MaxClock, api.MaxClock + 1,
		math.MaxInt - 1, math.MaxInt,
	}
}

// about are the edges, and the numbers next to n (of which those behind an int's end are
// at its other end).
func about(n int) []int { return append(edges(), n-1, n, n+1) }

// strangeIDs are such as no record that is written may have, and a few that it may.
func strangeIDs() []string {
	return []string{
		"", "a", "ab", "a-1.x", "A", "a b", "\x00", "a\x00", "\x7f", "\x80", "\xff", "\xff\xfe", "é", "aé", "z",
		strings.Repeat("a", 15), strings.Repeat("a", 16), strings.Repeat("a", 17), strings.Repeat("q", 1<<12),
	}
}

func somePlaces(r *rand.Rand, n int) []api.Place {
	var l []api.Place
	for range n {
		l = append(l, api.Place{Dev: r.Intn(40) - 20, At: int(r.Uint64()), Len: r.Intn(600) - 300, Bad: r.Intn(2) == 1})
	}
	return l
}

// plainRecords may all be written: with all kinds of IDs, Copies and numbers.
func plainRecords(r *rand.Rand) []api.Record {
	l := []api.Record{{ID: "a"}, {ID: "a", Copies: []api.Place{}}}
	for _, n := range []int{0, 1, 2, 3, 8} {
		x := api.Record{ID: strings.Repeat("k", 2*n+1)[:min(2*n+1, 16)], Length: 64 * n, Index: n << 20}
		r.Read(x.Root[:])
		for i := range n {
			x.Copies = append(x.Copies, api.Place{Dev: 2 + i, At: 17 * i, Len: 9, Bad: i%3 == 1})
		}
		l = append(l, x)
	}
	return l
}

// strangeRecords are such as record.Encode refuses.
func strangeRecords(r *rand.Rand) []api.Record {
	l := []api.Record{
		{},
		{ID: "a", Length: -1},
		{ID: "a", Length: math.MaxInt, Index: math.MinInt},
		{ID: "a", Index: 1 << 31},
		{ID: "a", Copies: somePlaces(r, 9)},
		{ID: "a", Copies: somePlaces(r, 300)},
		{ID: "a", Copies: []api.Place{{Dev: -1}}},
		{ID: "a", Copies: []api.Place{{Dev: 12, At: math.MinInt, Len: math.MaxInt, Bad: true}}},
	}
	for _, id := range []string{"A", "\x80\xff", strings.Repeat("a", 17), strings.Repeat("q", 1<<12)} {
		l = append(l, api.Record{ID: id, Length: 3, Copies: somePlaces(r, 2)})
	}
	return l
}
