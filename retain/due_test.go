package retain

import (
	"math/rand"
	"slices"
	"testing"

	"muniment/api"
)

func TestDueOfNone(t *testing.T) { // P18.4
	for _, now := range edges() {
		tells(t, nil, now)
		tells(t, []api.Record{}, now)
		tells(t, make([]api.Record, 5), now)
	}
}

func TestDueOfOne(t *testing.T) { // P18.4, P18.6
	for _, x := range allRecords() {
		for _, expiry := range edges() {
			x.Expiry = expiry
			for _, r := range states(x) {
				for _, now := range about(expiry) {
					dueIsWhatDeleteTakes(t, r, now)
				}
			}
		}
	}
}

func dueIsWhatDeleteTakes(t *testing.T, r api.Record, now int) {
	t.Helper()
	if _, e := Delete(r, now); e == api.OK && r.Expiry > 0 {
		tells(t, []api.Record{r}, now, r.ID)
	} else {
		tells(t, []api.Record{r}, now)
	}
}

// TestDueBehindAnyRow: of a record that went through calls, too.
func TestDueBehindAnyRow(t *testing.T) { // P18.6
	rnd := rand.New(rand.NewSource(5))
	told := map[api.Errno]int{}
	for range 2000 {
		r := states(api.Record{ID: "a", Expiry: someTime(rnd)})[rnd.Intn(4)]
		for range 12 {
			now := someTime(rnd)
			_, e := Delete(r, now)
			told[e]++
			dueIsWhatDeleteTakes(t, r, now)
			if x, e := someCall(rnd).of(r); e == api.OK {
				r = x
			}
		}
	}
	for _, e := range []api.Errno{api.OK, api.ErrGone, api.ErrLocked} {
		if told[e] < 500 {
			t.Errorf("error %d was told %d times: the records are not of all kinds", e, told[e])
		}
	}
}

// TestDueByBytes: IDs of one Expiry stand as their bytes do, whatever order they came in.
func TestDueByBytes(t *testing.T) { // P18.4
	ids := []string{"", "\x00", "\x00\x00", "-", "0", "9", "A", "Z", "a", "a\x00", "a-", "aa", "aaa", "ab", "a\x7f", "a\x80", "aé", "a\xff", "b", "z", "\x7f", "\x80", "é", "ÿ", "\xff", "\xff\x00", "\xff\xff"}
	var l []api.Record
	for _, id := range ids {
		l = append(l, api.Record{ID: id, Expiry: 7})
	}
	tells(t, l, 7, ids...)
	slices.Reverse(l)
	tells(t, l, 7, ids...)
	rnd := rand.New(rand.NewSource(6))
	for range 100 {
		rnd.Shuffle(len(l), func(i, j int) { l[i], l[j] = l[j], l[i] })
		tells(t, l, 7, ids...)
	}
}

// TestDueByExpiryFirst: a lesser ID stands behind, if its lock ended later, and numbers
// count as such.
func TestDueByExpiryFirst(t *testing.T) { // P18.4
	l := []api.Record{
		{ID: "a", Expiry: api.MaxClock}, {ID: "b", Expiry: api.MaxClock - 1}, {ID: "c", Expiry: 1 << 32}, {ID: "d", Expiry: 1<<32 - 1},
		{ID: "e", Expiry: 256}, {ID: "f", Expiry: 255}, {ID: "g", Expiry: 10}, {ID: "h", Expiry: 9}, {ID: "i", Expiry: 1},
	}
	tells(t, l, api.MaxClock, "i", "h", "g", "f", "e", "d", "c", "b", "a")
	tells(t, l, api.MaxClock-1, "i", "h", "g", "f", "e", "d", "c", "b")
	tells(t, l, 256, "i", "h", "g", "f", "e")
	tells(t, l, 255, "i", "h", "g", "f")
	tells(t, l, 1, "i")
	for _, now := range []int{0, -1, -api.MaxClock} {
		tells(t, l, now)
	}
}

func TestDueTellsEachThatIsTheSame(t *testing.T) { // P18.4
	x := api.Record{ID: "a", Expiry: 5}
	y := api.Record{ID: "a", Expiry: 4, Copies: []api.Place{{Dev: 2}}}
	b := api.Record{ID: "b", Expiry: 4}
	tells(t, []api.Record{x, x}, 5, "a", "a")
	tells(t, []api.Record{x, b, y, x, b}, 5, "a", "b", "b", "a", "a")
	tells(t, []api.Record{x, b, y, x, b}, 4, "a", "b", "b")
	many := slices.Repeat([]api.Record{x, b, y}, 100)
	want := slices.Concat(slices.Repeat([]string{"a"}, 100), slices.Repeat([]string{"b"}, 100), slices.Repeat([]string{"a"}, 100))
	tells(t, many, 5, want...)
}

func TestDueTellsNoneThatIsNot(t *testing.T) { // P18.4
	tells(t, []api.Record{
		{ID: "a", Expiry: 5, Gone: true}, {ID: "b", Expiry: 5, Hold: true}, {ID: "c", Expiry: 5, Hold: true, Gone: true},
		{ID: "d"}, {ID: "e", Expiry: -1}, {ID: "f", Expiry: -api.MaxClock}, {ID: "g", Expiry: 6}, {ID: "h", Expiry: 5},
	}, 5, "h")
}

// dueKinds are records of all kinds that P18.4 tells apart.
func dueKinds() []api.Record {
	return []api.Record{
		{ID: "a", Expiry: 2}, {ID: "a", Expiry: 1}, {ID: "ab", Expiry: 2}, {ID: "\xff", Expiry: 1}, {Expiry: 2},
		{ID: "b", Expiry: 3}, {ID: "c"}, {ID: "d", Expiry: -1}, {ID: "e", Expiry: 1, Hold: true}, {ID: "f", Expiry: 1, Gone: true},
	}
}

func TestDueOfAllShortLists(t *testing.T) { // P18.4
	kinds := dueKinds()
	var l []api.Record
	var each func()
	each = func() {
		for now := -1; now <= 3; now++ {
			tells(t, l, now, plainDue(l, now)...)
		}
		if len(l) == 4 {
			return
		}
		for _, r := range kinds {
			l = append(l, r)
			each()
			l = l[:len(l)-1]
		}
	}
	each()
}

func TestDueOfLongLists(t *testing.T) { // P18.4
	rnd := rand.New(rand.NewSource(7))
	ids := strangeIDs()
	for n := range 200 {
		var l []api.Record
		for range n * n / 20 {
			r := api.Record{ID: ids[rnd.Intn(len(ids))], Expiry: someTime(rnd), Hold: rnd.Intn(4) == 0, Gone: rnd.Intn(4) == 0}
			l = append(l, r)
		}
		for range 3 {
			now := someTime(rnd)
			tells(t, l, now, plainDue(l, now)...)
		}
	}
}
