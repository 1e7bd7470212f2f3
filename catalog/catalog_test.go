package catalog

import (
	"bytes"
	"math"
	"math/rand"
	"slices"
	"strconv"
	"strings"
	"testing"

	"muniment/api"
	"muniment/btree"
	"muniment/pager"
	"muniment/plant"
	"muniment/wal"
)

func ok(t *testing.T, e api.Errno) {
	t.Helper()
	if e != api.OK {
		t.Fatalf("answers %d", e)
	}
}

func made(t *testing.T, disks, tapes []int) *plant.Plant {
	t.Helper()
	p, e := plant.New(api.Shape{Disks: disks, Tapes: tapes})
	ok(t, e)
	return p
}

// formatted is a plant with a journal and a disk of so many sectors, and a catalogue on
// them.
func formatted(t *testing.T, journal, disk int) (*plant.Plant, *Catalog) {
	t.Helper()
	p := made(t, []int{journal, disk}, nil)
	ok(t, Format(p, 0, 1))
	return p, opens(t, p)
}

func opens(t *testing.T, p *plant.Plant) *Catalog {
	t.Helper()
	c, e := Open(p, 0, 1)
	if c == nil || e != api.OK {
		t.Fatalf("Open: %d", e)
	}
	return c
}

func opensNot(t *testing.T, p *plant.Plant, journal, disk int, want api.Errno) {
	t.Helper()
	if c, e := Open(p, journal, disk); c != nil || e != want {
		t.Fatalf("Open(%d, %d): %v, %d; want %d", journal, disk, c, e, want)
	}
}

func set(key, value string) api.Change {
	return api.Change{Key: []byte(key), Value: []byte(value)}
}

func gone(key string) api.Change { return api.Change{Key: []byte(key), Gone: true} }

func gets(t *testing.T, c *Catalog, key, value string) {
	t.Helper()
	if b, is, e := c.Get([]byte(key)); string(b) != value || !is || e != api.OK {
		t.Fatalf("Get(%x): %x, %v, %d; want %x", key, b, is, e, value)
	}
}

func getsNot(t *testing.T, c *Catalog, key string) {
	t.Helper()
	if b, is, e := c.Get([]byte(key)); len(b) > 0 || is || e != api.OK {
		t.Fatalf("Get(%x): %x, %v, %d; want none", key, b, is, e)
	}
}

func applies(t *testing.T, c *Catalog, l ...api.Change) {
	t.Helper()
	if e := c.Apply(l); e != api.OK {
		t.Fatalf("Apply of %d changes: %d", len(l), e)
	}
}

// appliesNot is of changes that are refused, ahead of any step.
func appliesNot(t *testing.T, p *plant.Plant, c *Catalog, want api.Errno, l ...api.Change) {
	t.Helper()
	steps := p.Steps()
	if e := c.Apply(l); e != want || p.Steps() != steps {
		t.Fatalf("Apply of %d changes: %d, with %d steps; want %d", len(l), e, p.Steps()-steps, want)
	}
}

func someBytes(r *rand.Rand, n int) []byte {
	b := make([]byte, n)
	r.Read(b)
	return b
}

// key is the one of a number, of so many bytes.
func key(i, size int) string {
	s := strconv.Itoa(1000 + i)
	return s + strings.Repeat("k", size-len(s))
}

// journalled is how many transactions the journal has. The catalogue is opened anew
// behind it.
func journalled(t *testing.T, p *plant.Plant) int {
	t.Helper()
	_, txs, e := wal.Open(p, 0)
	ok(t, e)
	return len(txs)
}

func TestExamples(t *testing.T) { // P12.1 to P12.4, P12.7
	p := made(t, []int{64, 386}, nil)
	opensNot(t, p, 0, 1, api.ErrCorrupt)
	if e := Format(p, 0, 0); e != api.ErrArg {
		t.Errorf("Format(0, 0): %d", e)
	}
	ok(t, Format(p, 0, 1))
	c := opens(t, p)
	applies(t, c, set("a", "1"), set("b", "2"), gone("a"))
	lists(t, c, "", plain{"b": "2"})
	getsNot(t, c, "a")
	appliesNot(t, p, c, api.ErrLong, make([]api.Change, 17)...)
	appliesNot(t, p, c, api.ErrKey, set("", "1"))
	appliesNot(t, p, c, api.ErrKey, api.Change{Key: []byte("b"), Value: []byte("1"), Gone: true})
	p.Fuse(0)
	if e := c.Apply([]api.Change{set("c", "3")}); e != api.ErrPower {
		t.Errorf("Apply without power: %d", e)
	}
	p.Boot(nil)
	lists(t, opens(t, p), "", plain{"b": "2"})
}

// TestDevicesThatHoldNone: all pairs of numbers, with the power on and off.
func TestDevicesThatHoldNone(t *testing.T) { // P12.1, P12.2
	p := made(t, []int{63, 64, 385, 386, 1, 4096}, []int{64, 386, 4096})
	sizes := p.Shape().Disks
	devs := []int{math.MinInt, -386, -1, 0, 1, 2, 3, 4, 5, 6, 7, 8, 9, 11, 12, 64, 386, math.MaxInt}
	for _, journal := range devs {
		for _, disk := range devs {
			isDisk := func(dev, least int) bool { return dev >= 0 && dev < 6 && sizes[dev] >= least }
			may := journal != disk && isDisk(journal, 64) && isDisk(disk, 386)
			for _, on := range []bool{true, false} {
				q, want, wantOpen := p.Clone(), api.OK, api.ErrCorrupt
				if !on {
					q.Fuse(0)
					q.Flush(1)
					want, wantOpen = api.ErrPower, api.ErrPower
				}
				if !may {
					want, wantOpen = api.ErrArg, api.ErrArg
				}
				opensNot(t, q, journal, disk, wantOpen)
				if e := Format(q, journal, disk); e != want {
					t.Fatalf("Format(%d, %d): %d; want %d", journal, disk, e, want)
				}
				if want != api.OK && q.Steps() != p.Steps() {
					t.Fatalf("Format(%d, %d) did something", journal, disk)
				}
				if want == api.OK {
					_, e := Open(q, journal, disk)
					ok(t, e)
				}
			}
		}
	}
}

// TestOtherDevicesAreLeft: a catalogue is on its two disks alone.
func TestOtherDevicesAreLeft(t *testing.T) { // P12.1
	p := made(t, []int{64, 386, 386, 64}, []int{9})
	ok(t, Format(p, 3, 2))
	ok(t, Format(p, 0, 1))
	other, e := Open(p, 3, 2)
	ok(t, e)
	applies(t, other, set("other", "1"))
	c := opens(t, p)
	applies(t, c, set("a", "2"))
	ok(t, c.Checkpoint())
	ok(t, Format(p, 0, 1))
	lists(t, opens(t, p), "", plain{})
	lists(t, other, "", plain{"other": "1"})
	applies(t, other, gone("other"), set("more", "3"))
	p.Boot(nil)
	other, e = Open(p, 3, 2)
	ok(t, e)
	lists(t, other, "", plain{"more": "3"})
	if n, _ := p.Len(4); n != 0 {
		t.Errorf("the tape has %d blocks", n)
	}
}

// fillings are plants whose disks have something, of which Format makes a catalogue.
func fillings(t *testing.T) map[string]*plant.Plant {
	t.Helper()
	r := rand.New(rand.NewSource(1))
	size := []int{400, 400}
	full := func(checkpoint bool) *plant.Plant {
		p, c := formatted(t, size[0], size[1])
		for i := range 5 {
			applies(t, c, set(key(i, 24), strings.Repeat("v", 160)))
		}
		if checkpoint {
			ok(t, c.Checkpoint())
			applies(t, c, gone(key(0, 24)), set("new", "1"))
		}
		return p
	}
	all := map[string]*plant.Plant{
		"nothing":                made(t, size, nil),
		"no keys":                made(t, size, nil),
		"keys in the journal":    full(false),
		"keys in the tree":       full(true),
		"junk":                   made(t, size, nil),
		"junk that waits":        made(t, size, nil),
		"junk above a catalogue": full(true),
		"ones":                   made(t, size, nil),
		"both changed places":    made(t, size, nil),
		"a journal on each":      made(t, size, nil),
		"a pager on each":        made(t, size, nil),
		"rotted heads":           full(true),
		"a rotted tree":          full(true),
		"cut off":                full(true),
	}
	ok(t, Format(all["no keys"], 0, 1))
	ok(t, Format(all["both changed places"], 1, 0))
	c, e := Open(all["both changed places"], 1, 0)
	ok(t, e)
	applies(t, c, set("a", "1"))
	for dev := range 2 {
		ok(t, wal.Format(all["a journal on each"], dev))
		ok(t, pager.Format(all["a pager on each"], dev))
		for place := range 400 {
			ok(t, all["junk"].Write(dev, place, someBytes(r, 64)))
			ok(t, all["junk that waits"].Write(dev, place, someBytes(r, 64)))
			ok(t, all["ones"].Write(dev, place, bytes.Repeat([]byte{0xff}, 64)))
			if place%3 == 0 {
				ok(t, all["junk above a catalogue"].Write(dev, place, someBytes(r, 64)))
			}
			if place > 1 {
				all["a rotted tree"].Rot(dev, place, place%64, 1)
			}
		}
		ok(t, all["junk"].Flush(dev))
		ok(t, all["ones"].Flush(dev))
		all["rotted heads"].Rot(dev, 0, 20, 1)
	}
	all["cut off"].Fuse(200)
	if e := Format(all["cut off"], 0, 1); e != api.ErrPower {
		t.Fatalf("not cut off: %d", e)
	}
	all["cut off"].Boot([]int{0, 1, 1})
	return all
}

// TestFormatOfAnything: there are no keys behind it, for good, and all may be done.
func TestFormatOfAnything(t *testing.T) { // P12.1
	for name, p := range fillings(t) {
		t.Run(name, func(t *testing.T) {
			ok(t, Format(p, 0, 1))
			q := p.Clone()
			q.Boot(nil)
			for _, p := range []*plant.Plant{p, q} {
				c := opens(t, p)
				same(t, c, plain{})
				m := plain{}
				for i := range 40 {
					l := []api.Change{set(key(i%5, 24), strings.Repeat("w", 4*i)), gone(key((i+2)%5, 24))}
					applies(t, c, l...)
					m, _ = m.with(l)
				}
				same(t, c, m)
				p.Boot(nil)
				same(t, opens(t, p), m)
			}
		})
	}
}

// TestNoCatalogue: what Open may not take for one.
func TestNoCatalogue(t *testing.T) { // P12.2
	whole, c := formatted(t, 400, 400)
	applies(t, c, set("a", "1"))
	ok(t, c.Checkpoint())
	applies(t, c, set("b", "2"))
	for name, p := range map[string]*plant.Plant{
		"new disks":    made(t, []int{400, 400}, nil),
		"no journal":   whole.Clone(),
		"no disk":      whole.Clone(),
		"journal gone": whole.Clone(),
		"disk gone":    whole.Clone(),
		"two journals": whole.Clone(),
		"two pagers":   whole.Clone(),
	} {
		switch name {
		case "no journal":
			p = made(t, []int{400, 400}, nil)
			ok(t, pager.Format(p, 1))
		case "no disk":
			p = made(t, []int{400, 400}, nil)
			ok(t, wal.Format(p, 0))
		case "journal gone":
			ok(t, p.Write(0, 0, make([]byte, 64)))
		case "disk gone":
			ok(t, p.Write(1, 0, make([]byte, 64)))
		case "two journals":
			ok(t, wal.Format(p, 1))
		case "two pagers":
			ok(t, pager.Format(p, 0))
		}
		opensNot(t, p, 0, 1, api.ErrCorrupt)
		opensNot(t, p, 1, 0, api.ErrCorrupt)
	}
	opensNot(t, whole, 1, 0, api.ErrCorrupt)
	same(t, opens(t, whole), plain{"a": "1", "b": "2"})
}

// TestRecordsThatAreNoChanges: a journal may have them, but not a catalogue's.
func TestRecordsThatAreNoChanges(t *testing.T) { // P12.2, P12.8
	right := recordOf(set("a", "1"))
	for name, record := range map[string][]byte{
		"nothing":           nil,
		"a byte":            {0},
		"no key":            {0, 0},
		"no key, a value":   {0, 0, 'v'},
		"half a key":        {0, 3, 'a', 'b'},
		"a kind of its own": {2, 1, 'a'},
		"the last kind":     {255, 1, 'a'},
		"gone with a value": {1, 1, 'a', 'v'},
		"a key of 25":       append([]byte{0, 25}, make([]byte, 25)...),
		"a value of 161":    append([]byte{0, 1, 'a'}, make([]byte, 161)...),
		"the longest key":   append([]byte{0, 255}, make([]byte, 255)...),
	} {
		for at := range 3 {
			p, _ := formatted(t, 64, 386)
			w, _, e := wal.Open(p, 0)
			ok(t, e)
			for i := range 3 {
				tx := [][]byte{right, right}
				if i == at {
					tx = [][]byte{right, record}
				}
				ok(t, w.Append(tx))
			}
			if c, e := Open(p, 0, 1); c != nil || e != api.ErrCorrupt {
				t.Errorf("%s: Open: %d", name, e)
			}
		}
	}
	p, _ := formatted(t, 64, 386)
	w, _, e := wal.Open(p, 0)
	ok(t, e)
	ok(t, w.Append([][]byte{right, right}))
	ok(t, w.Append(nil))
	same(t, opens(t, p), plain{"a": "1"})
}

// TestRecordsThereAndBack: what is laid down is read as it was, and takes no more than
// it counts.
func TestRecordsThereAndBack(t *testing.T) { // P12.4
	r := rand.New(rand.NewSource(2))
	for _, n := range []int{1, 2, 23, 24} {
		for _, size := range []int{0, 1, 159, 160} {
			for _, x := range []api.Change{{Key: someBytes(r, n), Value: someBytes(r, size)}, {Key: someBytes(r, n), Gone: true}} {
				b := recordOf(x)
				got, is := changeOf(b)
				if !is || !bytes.Equal(got.Key, x.Key) || !bytes.Equal(got.Value, x.Value) || got.Gone != x.Gone {
					t.Errorf("%v is read as %v", x, got)
				}
				if len(b) > len(x.Key)+len(x.Value)+3 {
					t.Errorf("%d bytes for a change of %d and %d", len(b), len(x.Key), len(x.Value))
				}
			}
		}
	}
}

func TestGet(t *testing.T) { // P12.3
	p, c := formatted(t, 64, 386)
	long := strings.Repeat("k", 24)
	getsNot(t, c, "")
	getsNot(t, c, "a")
	applies(t, c, set("a", ""), set("b", "2"), set(long, strings.Repeat("v", 160)))
	for range 2 {
		gets(t, c, "a", "")
		gets(t, c, "b", "2")
		gets(t, c, long, strings.Repeat("v", 160))
		for _, key := range []string{"", "\x00", "aa", "A", "c", long[:23], long + "k", strings.Repeat("k", 1000)} {
			getsNot(t, c, key)
		}
		if b, is, e := c.Get(nil); len(b) > 0 || is || e != api.OK {
			t.Errorf("Get(nil): %x, %v, %d", b, is, e)
		}
		ok(t, c.Checkpoint())
	}
	applies(t, c, gone("a"), set("b", ""), set("c", "3"))
	for range 2 {
		getsNot(t, c, "a")
		gets(t, c, "b", "")
		gets(t, c, "c", "3")
		c = opens(t, p)
	}
}

// TestList: each prefix, of keys in the tree, in the journal, and in both.
func TestList(t *testing.T) { // P12.3
	keys := []string{"\x00", "\x00\x00", "a", "a\x00", "a\xff", "a\xff\xff", "a\xffb", "b", "ba", "bb", "\xfe", "\xff",
		"\xff\xff", "\xff\xff\x00", "\xff\xff\xff", strings.Repeat("\xff", 24), strings.Repeat("a", 24), strings.Repeat("a", 23)}
	prefixes := append(slices.Clone(keys), "", "aa", "c", "b\xff", "\xff\x00", "\xfe\xff", "zz",
		strings.Repeat("a", 25), strings.Repeat("\xff", 25), strings.Repeat("\xff", 500), strings.Repeat("a", 500))
	for way := range 4 {
		p, c := formatted(t, 400, 3074)
		m := plain{}
		add := func(l ...api.Change) {
			applies(t, c, l...)
			m, _ = m.with(l)
		}
		for i, k := range keys {
			if way == 3 && i%2 == 0 {
				continue
			}
			add(set(k, "tree "+strconv.Itoa(i)))
		}
		if way > 0 {
			ok(t, c.Checkpoint())
		}
		for i, k := range keys {
			switch {
			case way == 2 && i%3 == 0:
				add(gone(k))
			case way == 2 && i%3 == 1 || way == 3 && i%2 == 0:
				add(set(k, "journal "+strconv.Itoa(i)))
			case way == 3 && i%4 == 1:
				add(gone(k))
			}
		}
		for range 2 {
			for _, prefix := range prefixes {
				lists(t, c, prefix, m)
			}
			if l, e := c.List(nil); e != api.OK || len(l) != len(m) {
				t.Errorf("List(nil): %d pairs, %d", len(l), e)
			}
			c = opens(t, p)
		}
	}
}

// counting are changes of new keys that count just so many bytes together.
func counting(n, size int) []api.Change {
	var l []api.Change
	rest := size
	for i := range n {
		x := set(key(i, 24), "")
		if i == n-1 {
			x.Value = make([]byte, rest-27)
		} else {
			x.Value = make([]byte, min(160, rest-27*(n-i)))
		}
		rest -= 27 + len(x.Value)
		l = append(l, x)
	}
	return l
}

func TestHowMuchOneApplyTakes(t *testing.T) { // P12.4
	for _, n := range []int{6, 7, 10, 16} {
		for size := 1022; size <= 1027; size++ {
			p, c := formatted(t, 64, 3074)
			l := counting(n, size)
			if len(l) != n || sizeOf(l) != size {
				t.Fatalf("%d changes of %d bytes", len(l), sizeOf(l))
			}
			m := plain{}
			if size > 1024 {
				appliesNot(t, p, c, api.ErrLong, l...)
			} else {
				applies(t, c, l...)
				m, _ = m.with(l)
			}
			same(t, c, m)
			same(t, opens(t, p), m)
		}
	}
	p, c := formatted(t, 64, 3074)
	var many []api.Change
	for i := range 17 {
		many = append(many, set(key(i, 4), ""))
	}
	appliesNot(t, p, c, api.ErrLong, many...)
	lists(t, c, "", plain{})
	applies(t, c, many[:16]...)
	m, _ := plain{}.with(many[:16])
	same(t, c, m)
	for i := range many {
		many[i] = gone("a")
	}
	appliesNot(t, p, c, api.ErrLong, many...)
	applies(t, c, many[:16]...)
	applies(t, c)
	same(t, c, m)
	same(t, opens(t, p), m)
}

// wrong are changes that may not be.
func wrong() map[string]api.Change {
	both := gone("a")
	both.Value = []byte("1")
	none := set("", "1")
	none.Gone = true
	return map[string]api.Change{
		"nothing":              {},
		"no key":               set("", "1"),
		"no key, gone":         gone(""),
		"no key, gone, value":  none,
		"a key of 25 bytes":    set(key(0, 25), "1"),
		"a key of 25, gone":    gone(key(0, 25)),
		"a key of 500 bytes":   set(key(0, 500), ""),
		"a value of 161 bytes": set("a", strings.Repeat("v", 161)),
		"a value of 900 bytes": set("a", strings.Repeat("v", 900)),
		"gone, with a value":   both,
	}
}

// TestWrongChanges: one of them, at any place, and none is done.
func TestWrongChanges(t *testing.T) { // P12.4
	for name, x := range wrong() {
		t.Run(name, func(t *testing.T) {
			p, c := formatted(t, 64, 3074)
			applies(t, c, set("a", "0"), set("z", "0"))
			m := plain{"a": "0", "z": "0"}
			for at := range 16 {
				if sizeOf([]api.Change{x})+15*(7+3) > 1024 {
					break
				}
				var l []api.Change
				for i := range 16 {
					l = append(l, set(key(i, 7), ""))
				}
				l[at] = x
				appliesNot(t, p, c, api.ErrKey, l...)
				appliesNot(t, p, c, api.ErrKey, l[at])
				appliesNot(t, p, c, api.ErrKey, l[:at+1]...)
				appliesNot(t, p, c, api.ErrKey, l[at:]...)
			}
			lists(t, c, "", m)
			same(t, opens(t, p), m)
		})
	}
}

// TestLongComesFirst: of both errors, whatever is wrong and wherever.
func TestLongComesFirst(t *testing.T) { // P12.4, R2
	p, c := formatted(t, 64, 386)
	for _, x := range wrong() {
		for at := range 17 {
			l := make([]api.Change, 17)
			for i := range l {
				l[i] = set(key(i, 4), "")
			}
			l[at] = x
			appliesNot(t, p, c, api.ErrLong, l...)
		}
		for at := range 16 {
			l := counting(16, 1024)
			l[at] = x
			l = append(l[:15], set(key(99, 24), strings.Repeat("v", 1000)))
			appliesNot(t, p, c, api.ErrLong, l...)
		}
	}
	for size, want := range map[int]api.Errno{1020: api.ErrKey, 1021: api.ErrLong, 5000: api.ErrLong} {
		appliesNot(t, p, c, want, set("a", strings.Repeat("v", size)))
		appliesNot(t, p, c, want, api.Change{Key: make([]byte, size+1)})
		appliesNot(t, p, c, want, api.Change{Key: make([]byte, 1), Value: make([]byte, size), Gone: true})
	}
	lists(t, c, "", plain{})
}

// TestErrorsAheadOfThePower: what is wrong with the changes is told first.
func TestErrorsAheadOfThePower(t *testing.T) { // P12.4, R3
	p, c := formatted(t, 64, 386)
	p.Fuse(0)
	p.Flush(0)
	appliesNot(t, p, c, api.ErrLong, make([]api.Change, 17)...)
	for _, x := range wrong() {
		appliesNot(t, p, c, api.ErrKey, x)
	}
	appliesNot(t, p, c, api.ErrPower, set("a", "1"))
	if e := c.Checkpoint(); e != api.ErrPower {
		t.Errorf("Checkpoint without power: %d", e)
	}
	opensNot(t, p, 0, 1, api.ErrPower)
	if e := Format(p, 0, 1); e != api.ErrPower {
		t.Errorf("Format without power: %d", e)
	}
}

// TestOneKeyInOneApply: the last change of it counts.
func TestOneKeyInOneApply(t *testing.T) { // P12.4
	for name, x := range map[string]struct {
		l    []api.Change
		want plain
	}{
		"set and gone":       {[]api.Change{set("a", "1"), gone("a")}, plain{}},
		"gone and set":       {[]api.Change{gone("a"), set("a", "1")}, plain{"a": "1"}},
		"set twice":          {[]api.Change{set("a", "1"), set("a", "2")}, plain{"a": "2"}},
		"set twice, shorter": {[]api.Change{set("a", "111"), set("a", "")}, plain{"a": ""}},
		"gone twice":         {[]api.Change{gone("a"), gone("a")}, plain{}},
		"back and forth":     {[]api.Change{set("a", "1"), gone("a"), set("a", "2"), gone("a"), set("a", "3")}, plain{"a": "3"}},
		"gone alone":         {[]api.Change{gone("a")}, plain{}},
		"another one gone":   {[]api.Change{set("a", "1"), gone("aa")}, plain{"a": "1"}},
	} {
		for was := range 3 {
			p, c := formatted(t, 64, 386)
			if was > 0 {
				applies(t, c, set("a", "was"))
			}
			if was > 1 {
				ok(t, c.Checkpoint())
			}
			applies(t, c, x.l...)
			same(t, c, x.want)
			if !x.want.like(opens(t, p)) {
				t.Errorf("%s: opened anew it is another one", name)
			}
			c = opens(t, p)
			ok(t, c.Checkpoint())
			same(t, c, x.want)
			p.Boot(nil)
			same(t, opens(t, p), x.want)
		}
	}
}

// TestApplyIsForGood: also of a change that changes nothing, and of none.
func TestApplyIsForGood(t *testing.T) { // P12.4
	p, c := formatted(t, 64, 386)
	m := plain{}
	for i, l := range [][]api.Change{
		{set("a", "1")}, {set("b", "2"), set("c", "3")}, {}, {set("a", "1")}, {gone("b")}, {gone("b")}, {set("a", "")}, {gone("a"), gone("c")}, {gone("a")},
	} {
		applies(t, c, l...)
		m, _ = m.with(l)
		for _, keep := range [][]int{nil, {1}, {0, 1}} {
			q := p.Clone()
			q.Boot(keep)
			same(t, opens(t, q), m)
		}
		if i%4 == 3 {
			p.Boot(nil)
			c = opens(t, p)
		}
	}
}

// TestCheckpoint: the journal is empty behind it, and nothing else is seen.
func TestCheckpoint(t *testing.T) { // P12.6
	p, c := formatted(t, 64, 700)
	m := plain{}
	for round := range 6 {
		ok(t, c.Checkpoint())
		same(t, c, m)
		if n := journalled(t, p); n != 0 {
			t.Fatalf("round %d: %d transactions behind Checkpoint", round, n)
		}
		c = opens(t, p)
		same(t, c, m)
		for i := range 3 {
			l := []api.Change{set(key(3*round+i, 24), strings.Repeat("v", 30*i)), gone(key(2*round, 24))}
			applies(t, c, l...)
			m, _ = m.with(l)
		}
		if n := journalled(t, p); n != 3 {
			t.Fatalf("round %d: %d transactions behind three", round, n)
		}
		c = opens(t, p)
		ok(t, c.Checkpoint())
		ok(t, c.Checkpoint())
		same(t, c, m)
		q := p.Clone()
		q.Boot(nil)
		same(t, opens(t, q), m)
	}
}

// TestCheckpointBringsAllToTheTree: it has the keys that there are, and no others.
func TestCheckpointBringsAllToTheTree(t *testing.T) { // P12.6
	r := rand.New(rand.NewSource(3))
	k := someMaker(r)
	p, c := formatted(t, 64, 3074)
	m := plain{}
	for range 30 {
		m = tryApply(t, p, c, m, k.changes(m))
		ok(t, c.Checkpoint())
		g, e := pager.Open(p, 1)
		ok(t, e)
		l, e := btree.Open(g).List(nil, nil)
		if e != api.OK || !slices.Equal(told(l), m.list("")) {
			t.Fatalf("the tree has %x; want %x: %d", told(l), m.list(""), e)
		}
	}
}

// TestMoreThanTheJournalHolds: far more Applies, of changes of all sizes, with a
// Checkpoint now and then, or never.
func TestMoreThanTheJournalHolds(t *testing.T) { // P12.6
	for _, journal := range []int{64, 65, 100} {
		for _, each := range []int{0, 1, 7, 50} {
			for size := 0; size <= 160; size += 40 {
				p, c := formatted(t, journal, 386)
				m := plain{}
				emptied, last := 0, 0
				for i := range 150 {
					l := []api.Change{set(key(i%4, 24), strings.Repeat(string(rune('a'+i%20)), size)), gone(key((i+1)%5, 24))}
					applies(t, c, l...)
					m, _ = m.with(l)
					if each > 0 && i%each == each-1 {
						ok(t, c.Checkpoint())
					}
					if len(c.ahead) < last {
						emptied++
					}
					last = len(c.ahead)
					if i%10 == 0 {
						lists(t, c, "", m)
						q := p.Clone()
						q.Boot(nil)
						lists(t, opens(t, q), "", m)
					}
				}
				if each == 0 && emptied == 0 {
					t.Errorf("the journal of %d was never full: nothing was shown", journal)
				}
				same(t, opens(t, p), m)
			}
		}
	}
}

// TestTheGreatestApplies: one behind the other, of as many bytes as may be.
func TestTheGreatestApplies(t *testing.T) { // P12.4, P12.6
	for _, n := range []int{6, 16} {
		p, c := formatted(t, 64, 3074)
		m := plain{}
		for i := range 60 {
			l := counting(n, 1024)
			for _, x := range l {
				for j := range x.Value {
					x.Value[j] = byte(i)
				}
			}
			applies(t, c, l...)
			m, _ = m.with(l)
			lists(t, c, "", m)
			if i%7 == 0 {
				p.Boot(nil)
				c = opens(t, p)
				lists(t, c, "", m)
			}
		}
		same(t, c, m)
	}
}

// TestMemory: nothing that is handed in is kept or changed, and what comes out is the
// caller's.
func TestMemory(t *testing.T) { // R6
	p, c := formatted(t, 64, 700)
	spoil := func(b []byte) {
		b = b[:cap(b)]
		for i := range b {
			b[i] ^= 0xff
		}
	}
	room := func(s string) []byte { return append(make([]byte, 0, len(s)+9), s...) }
	m := plain{"a": "1", "b": "22", "c": ""}
	for round := range 3 {
		l := make([]api.Change, 4, 9)
		l[0] = api.Change{Key: room("a"), Value: room("1")}
		l[1] = api.Change{Key: room("b"), Value: room("22")}
		l[2] = api.Change{Key: room("c"), Value: room("")}
		l[3] = api.Change{Key: room("d"), Gone: true, Value: room("")}
		applies(t, c, l...)
		for i, want := range []string{"a", "b", "c", "d"} {
			if string(l[i].Key) != want || string(l[i].Value) != m[want] || l[i].Gone != (i == 3) {
				t.Fatalf("change %d was changed: %v", i, l[i])
			}
		}
		for _, x := range l[:cap(l)] {
			if x.Key == nil {
				continue
			}
			spoil(x.Key)
			spoil(x.Value)
		}
		clear(l)
		same(t, c, m)
		for range 2 {
			asked := room("b")
			b, _, e := c.Get(asked)
			ok(t, e)
			spoil(b)
			spoil(asked)
			prefix := room("")
			got, e := c.List(prefix)
			ok(t, e)
			for _, x := range got[:cap(got)] {
				spoil(x.Key)
				spoil(x.Value)
			}
			clear(got[:cap(got)])
			same(t, c, m)
		}
		if round == 0 {
			ok(t, c.Checkpoint())
			same(t, c, m)
		} else {
			c = opens(t, p)
		}
	}
}

// TestWhatIsBehindAList: is not read.
func TestWhatIsBehindAList(t *testing.T) { // R6
	_, c := formatted(t, 64, 386)
	l := make([]api.Change, 20)
	l[0] = set("ab", "12")
	l[1] = set("cd", "34")
	l[0].Key, l[0].Value = l[0].Key[:1], l[0].Value[:1]
	applies(t, c, l[:1]...)
	same(t, c, plain{"a": "1"})
	b := []byte("ab")
	if v, is, e := c.Get(b[:1]); string(v) != "1" || !is || e != api.OK {
		t.Errorf("Get: %x, %v, %d", v, is, e)
	}
	if got, e := c.List(b[:1]); len(got) != 1 || e != api.OK {
		t.Errorf("List: %v, %d", got, e)
	}
}

// TestAskingDoesNoStep: neither Get nor List.
func TestAskingDoesNoStep(t *testing.T) { // P12.3, P12.7
	p, c := formatted(t, 64, 386)
	applies(t, c, set("a", "1"))
	ok(t, c.Checkpoint())
	applies(t, c, set("b", "2"))
	steps := p.Steps()
	same(t, c, plain{"a": "1", "b": "2"})
	if p.Steps() != steps {
		t.Errorf("asking did %d steps", p.Steps()-steps)
	}
}

// TestTheSameStepsEachTime: what a call does to the disks does not hang on the order in
// which a map is gone through.
func TestTheSameStepsEachTime(t *testing.T) { // P12.6
	content := func() []byte {
		r := rand.New(rand.NewSource(4))
		k := maker{r: r, letters: "abcdef", maxKey: 3, values: []int{-1}}
		p, c := formatted(t, 64, 700)
		m := plain{}
		for range 25 {
			m = tryApply(t, p, c, m, k.changes(m))
		}
		ok(t, c.Checkpoint())
		b := []byte(strconv.Itoa(p.Steps()))
		for dev, n := range p.Shape().Disks {
			for place := range n {
				s, e := p.Read(dev, place)
				ok(t, e)
				b = append(b, s...)
			}
		}
		return b
	}
	first := content()
	for range 5 {
		if !bytes.Equal(content(), first) {
			t.Fatalf("the disks are others")
		}
	}
}
