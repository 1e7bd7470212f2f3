package btree

import (
	"bytes"
	"math/rand"
	"slices"
	"strings"
	"testing"

	"muniment/api"
	"muniment/pager"
	"muniment/plant"
)

func ok(t *testing.T, e api.Errno) {
	t.Helper()
	if e != api.OK {
		t.Fatalf("answers %d", e)
	}
}

// formatted is a plant with one disk of so many pages, and a tree on it.
func formatted(t *testing.T, pages int) (*plant.Plant, *pager.Pager, *Tree) {
	t.Helper()
	p, e := plant.New(api.Shape{Disks: []int{2 + 8*pages}})
	ok(t, e)
	ok(t, pager.Format(p, 0))
	g, x := opens(t, p)
	return p, g, x
}

// opens opens pager and tree anew.
func opens(t *testing.T, p *plant.Plant) (*pager.Pager, *Tree) {
	t.Helper()
	g, e := pager.Open(p, 0)
	ok(t, e)
	return g, Open(g)
}

func puts(t *testing.T, x *Tree, key, value string) {
	t.Helper()
	if e := x.Put([]byte(key), []byte(value)); e != api.OK {
		t.Fatalf("Put(%x, %d bytes): %d", key, len(value), e)
	}
}

func putsNot(t *testing.T, x *Tree, key, value string, want api.Errno) {
	t.Helper()
	if e := x.Put([]byte(key), []byte(value)); e != want {
		t.Fatalf("Put(%x, %d bytes): %d; want %d", key, len(value), e, want)
	}
}

func gets(t *testing.T, x *Tree, key, value string) {
	t.Helper()
	if b, is, e := x.Get([]byte(key)); string(b) != value || !is || e != api.OK {
		t.Fatalf("Get(%x): %x, %v, %d; want %x", key, b, is, e, value)
	}
}

func getsNot(t *testing.T, x *Tree, key string) {
	t.Helper()
	if b, is, e := x.Get([]byte(key)); len(b) > 0 || is || e != api.OK {
		t.Fatalf("Get(%x): %x, %v, %d; want none", key, b, is, e)
	}
}

func deletes(t *testing.T, x *Tree, key string) {
	t.Helper()
	if is, e := x.Delete([]byte(key)); !is || e != api.OK {
		t.Fatalf("Delete(%x): %v, %d", key, is, e)
	}
}

func deletesNot(t *testing.T, x *Tree, key string) {
	t.Helper()
	if is, e := x.Delete([]byte(key)); is || e != api.OK {
		t.Fatalf("Delete(%x): %v, %d", key, is, e)
	}
}

func TestExamples(t *testing.T) { // P10.1 to P10.5
	p, _, x := formatted(t, 20)
	puts(t, x, "b", "\x01")
	puts(t, x, "a", "")
	lists(t, x, "", "", plain{"a": "", "b": "\x01"})
	gets(t, x, "a", "")
	getsNot(t, x, "c")
	getsNot(t, x, "")
	deletesNot(t, x, "c")
	deletes(t, x, "a")
	putsNot(t, x, "", "\x01", api.ErrKey)
	putsNot(t, x, strings.Repeat("k", 25), "\x01", api.ErrKey)
	putsNot(t, x, "a", strings.Repeat("v", 161), api.ErrKey)
	lists(t, x, "b", "b", plain{})
	lists(t, x, "a", "a\x00", plain{})
	lists(t, x, "b", "", plain{"b": "\x01"})
	_, x = opens(t, p)
	lists(t, x, "", "", plain{})
}

// TestOpen: a tree is what was committed last, whatever the pager had since.
func TestOpen(t *testing.T) { // P10.1
	p, g, x := formatted(t, 40)
	m := plain{}
	same(t, Open(g), plain{})
	for i := range 12 {
		key := string(rune('a' + i))
		puts(t, x, key, strings.Repeat(key, 150))
		same(t, Open(g), plain{}) // its root is -1 still
		m[key] = strings.Repeat(key, 150)
	}
	ok(t, x.Commit())
	same(t, Open(g), m)
	puts(t, x, "new", "1")
	puts(t, x, "a", "other")
	deletes(t, x, "b")
	deletes(t, x, "c")
	deletes(t, x, "d")
	same(t, Open(g), m)
	_, y := opens(t, p)
	same(t, y, m)
	ok(t, x.Commit())
	delete(m, "b")
	delete(m, "c")
	delete(m, "d")
	m["new"], m["a"] = "1", "other"
	same(t, x, m)
	same(t, Open(g), m)
	_, y = opens(t, p)
	same(t, y, m)
}

// TestALaterTreeOfAPager: it goes on from what was committed, if the one ahead of it is
// not asked any more.
func TestALaterTreeOfAPager(t *testing.T) { // P10.1, P10.6
	p, g, x := formatted(t, 40)
	for _, c := range "abcdefghi" {
		puts(t, x, string(c), strings.Repeat("v", 160))
	}
	ok(t, x.Commit())
	puts(t, x, "a", "lost")
	deletes(t, x, "b")
	y := Open(g)
	gets(t, y, "a", strings.Repeat("v", 160))
	puts(t, y, "c", "kept")
	deletes(t, y, "d")
	ok(t, y.Commit())
	_, z := opens(t, p)
	for _, tree := range []*Tree{y, Open(g), z} {
		gets(t, tree, "a", strings.Repeat("v", 160))
		gets(t, tree, "b", strings.Repeat("v", 160))
		gets(t, tree, "c", "kept")
		getsNot(t, tree, "d")
	}
}

// TestWhatIsNoKeyAndNoValue: each is refused, and nothing changes; without a device.
func TestWhatIsNoKeyAndNoValue(t *testing.T) { // P10.2, P10.3, P10.4
	p, g, x := formatted(t, 20)
	m := plain{"k": "v"}
	puts(t, x, "k", "v")
	for _, off := range []bool{false, true} {
		if off {
			p.Fuse(0)
			p.Flush(0)
		}
		steps, room := p.Steps(), g.Room()
		for _, n := range []int{0, 25, 26, 48, 255, 256, 257, 280, 512, 65537, 1 << 20} {
			key := strings.Repeat("k", n)
			putsNot(t, x, key, "v", api.ErrKey)
			putsNot(t, x, key, strings.Repeat("v", 161), api.ErrKey)
			getsNot(t, x, key)
			deletesNot(t, x, key)
		}
		for _, n := range []int{161, 162, 255, 256, 257, 256 + 160, 512, 65536, 1 << 20} {
			putsNot(t, x, "k", strings.Repeat("v", n), api.ErrKey)
			putsNot(t, x, "new", strings.Repeat("v", n), api.ErrKey)
		}
		if e := x.Put(nil, nil); e != api.ErrKey {
			t.Errorf("Put(nil, nil): %d", e)
		}
		if p.Steps() != steps || g.Room() != room {
			t.Errorf("what was refused did something")
		}
		if !off {
			same(t, x, m)
		}
	}
}

// TestErrKeyIsAheadOfErrFull: where there is no room for anything.
func TestErrKeyIsAheadOfErrFull(t *testing.T) { // P10.3, R2
	_, g, x := formatted(t, 1)
	puts(t, x, "k", "v")
	ok(t, x.Commit())
	if g.Room() != 0 {
		t.Fatalf("room for %d", g.Room())
	}
	putsNot(t, x, "a", "", api.ErrFull)
	putsNot(t, x, "", "", api.ErrKey)
	putsNot(t, x, "a", strings.Repeat("v", 161), api.ErrKey)
	deletesNot(t, x, "a") // needs no room
	deletes(t, x, "k")    // nor does a tree without keys
	same(t, x, plain{})
}

// TestEachLength: of keys and of values.
func TestEachLength(t *testing.T) { // P10.2, P10.3, P10.5
	r := rand.New(rand.NewSource(1))
	p, _, x := formatted(t, 384)
	m := plain{}
	for n := 1; n <= 24; n++ {
		for _, c := range []string{"\x00", "k", "\xff"} {
			key, value := strings.Repeat(c, n), string(someBytes(r, 24-n))
			puts(t, x, key, value)
			m[key] = value
		}
	}
	for n := range 161 {
		key, value := "n"+string([]byte{byte(n)}), string(someBytes(r, n))
		puts(t, x, key, value)
		gets(t, x, key, value)
		m[key] = value
	}
	same(t, x, m)
	commits(t, x, m, 384)
	_, x = opens(t, p)
	same(t, x, m)
}

// TestAnyBytes: keys and values that are as a node's own bytes, or all alike.
func TestAnyBytes(t *testing.T) { // P10.2, P10.3, P10.5
	p, _, x := formatted(t, 60)
	m := plain{}
	for _, s := range []string{"\x00", "\x00\x00", "\xff", "\xff\xff", mark, mark + "\x00", mark + "\x01", "\x01\x01", "\x18", "\xa0", "PG"} {
		for _, value := range []string{"", s, mark + "\x00\x01\x00k", strings.Repeat("\x00", 160), strings.Repeat("\xff", 160)} {
			puts(t, x, s, value)
			m[s] = value
			same(t, x, m)
		}
	}
	ok(t, x.Commit())
	_, x = opens(t, p)
	same(t, x, m)
}

func TestPutOfAKeyThatIsThere(t *testing.T) { // P10.3
	_, g, x := formatted(t, 40)
	for _, n := range []int{0, 160, 1, 159, 160, 0} {
		puts(t, x, "key", strings.Repeat("v", n))
		same(t, x, plain{"key": strings.Repeat("v", n)})
		if g.Room() != 39 { // what was not committed leaves no page behind
			t.Fatalf("room for %d of 40", g.Room())
		}
	}
	puts(t, x, "key", "")
	ok(t, x.Commit())
	puts(t, x, "key", "")
	ok(t, x.Commit())
	same(t, x, plain{"key": ""})
}

// TestBeginnings: keys of which one is the other's beginning, put in any order.
func TestBeginnings(t *testing.T) { // P10.5
	keys := []string{"a", "a\x00", "a\x00\x00", "a\x00b", "a\x01", "aa", "aaa", "ab", "b", "b\xff", "b\xff\xff", "c"}
	r := rand.New(rand.NewSource(1))
	for range 30 {
		_, _, x := formatted(t, 60)
		m := plain{}
		for _, i := range r.Perm(len(keys)) {
			puts(t, x, keys[i], strings.Repeat(keys[i][:1], 10*i))
			m[keys[i]] = strings.Repeat(keys[i][:1], 10*i)
		}
		l, e := x.List(nil, nil)
		ok(t, e)
		for i, p := range l {
			if string(p.Key) != keys[i] {
				t.Fatalf("key %d is %x; want %x", i, p.Key, keys[i])
			}
		}
		for _, i := range r.Perm(len(keys)) {
			deletes(t, x, keys[i])
			delete(m, keys[i])
			same(t, x, m)
		}
	}
}

// TestEachRange: all pairs of bounds, of trees of no key, of one, and of several levels.
func TestEachRange(t *testing.T) { // P10.5
	t.Parallel()
	for _, count := range []int{0, 1, 2, 3, 9, 60} {
		for _, size := range []int{0, 160} {
			_, _, x := formatted(t, 100)
			m := plain{}
			bounds := []string{"", "\x00", "\xff", strings.Repeat("\xff", 24), strings.Repeat("m", 25), strings.Repeat("\xff", 300)}
			for i := range count {
				key := string([]byte{byte('a' + i%26), byte('a' + i/26)})
				puts(t, x, key, strings.Repeat("v", size))
				m[key] = strings.Repeat("v", size)
				bounds = append(bounds, key, key+"\x00", key[:1]+"`")
			}
			for _, from := range bounds {
				for _, to := range bounds {
					lists(t, x, from, to, m)
				}
			}
		}
	}
}

func TestDeleteOfWhatIsNotThere(t *testing.T) { // P10.4
	p, g, x := formatted(t, 100)
	deletesNot(t, x, "k")
	m := plain{}
	for i := range 40 {
		key := string([]byte{byte(2 * i), 7})
		puts(t, x, key, strings.Repeat("v", 100))
		m[key] = strings.Repeat("v", 100)
	}
	ok(t, x.Commit())
	steps, room := p.Steps(), g.Room()
	for i := range 90 {
		deletesNot(t, x, string([]byte{byte(2*i + 1), 7}))
		deletesNot(t, x, string([]byte{byte(2 * i)}))
		deletesNot(t, x, string([]byte{byte(2 * i), 7, 0}))
	}
	if p.Steps() != steps || g.Room() != room {
		t.Errorf("Delete of what is not there did something")
	}
	same(t, x, m)
	deletes(t, x, "\x00\x07")
	deletesNot(t, x, "\x00\x07")
}

func TestCommitIsForGood(t *testing.T) { // P10.6
	p, _, x := formatted(t, 60)
	m := plain{}
	ok(t, x.Commit())
	for i := range 40 {
		key := string([]byte{byte(i * 37)})
		puts(t, x, key, strings.Repeat("v", 4*i))
		m[key] = strings.Repeat("v", 4*i)
		if i%3 == 2 {
			deletes(t, x, string([]byte{byte((i - 1) * 37)}))
			delete(m, string([]byte{byte((i - 1) * 37)}))
		}
		ok(t, x.Commit())
		q := p.Clone()
		q.Boot(nil)
		_, y := opens(t, q)
		same(t, y, m)
		ok(t, y.Commit())
		same(t, y, m)
		q.Boot(nil)
		_, y = opens(t, q)
		same(t, y, m)
	}
	same(t, x, m)
}

func TestNothingUncommittedIsLeft(t *testing.T) { // P10.1, P10.8
	p, g, x := formatted(t, 60)
	m := plain{}
	for i := range 30 {
		puts(t, x, string([]byte{byte(i)}), strings.Repeat("v", 160))
		m[string([]byte{byte(i)})] = strings.Repeat("v", 160)
	}
	commits(t, x, m, 60)
	room := g.Room()
	for i := range 12 {
		deletes(t, x, string([]byte{byte(2 * i)}))
		puts(t, x, string([]byte{byte(2 * i), 0}), "new")
		puts(t, x, string([]byte{byte(2*i + 1)}), "other")
		q := p.Clone()
		for _, boot := range [][]int{nil, {1}, {0, 1}, {1, 1, 0}} {
			if boot != nil {
				q.Boot(boot)
			}
			h, y := opens(t, q)
			same(t, y, m)
			if h.Room() != room {
				t.Fatalf("room for %d; want %d", h.Room(), room)
			}
		}
	}
}

// TestThePowerIsOff: a call that comes to a device tells so; others do as ever.
func TestThePowerIsOff(t *testing.T) { // R2, R3
	p, g, empty := formatted(t, 30)
	p.Fuse(0)
	putsNot(t, empty, "k", "v", api.ErrPower)
	getsNot(t, empty, "k")
	lists(t, empty, "", "", plain{})
	if e := empty.Commit(); e != api.ErrPower {
		t.Errorf("Commit: %d", e)
	}
	p.Boot(nil)
	g, x := opens(t, p)
	puts(t, x, "k", "v")
	ok(t, x.Commit())
	p.Fuse(0)
	p.Flush(0)
	putsNot(t, x, "k", "v", api.ErrPower)
	putsNot(t, x, "new", "v", api.ErrPower)
	if b, is, e := x.Get([]byte("k")); len(b) > 0 || is || e != api.ErrPower {
		t.Errorf("Get: %x, %v, %d", b, is, e)
	}
	if is, e := x.Delete([]byte("k")); is || e != api.ErrPower {
		t.Errorf("Delete: %v, %d", is, e)
	}
	if l, e := x.List(nil, nil); len(l) > 0 || e != api.ErrPower {
		t.Errorf("List: %v, %d", l, e)
	}
	if e := x.Commit(); e != api.ErrPower {
		t.Errorf("Commit: %d", e)
	}
	if e := Open(g).Commit(); e != api.ErrPower {
		t.Errorf("Commit of a tree that was opened: %d", e)
	}
	p.Boot(nil)
	_, x = opens(t, p)
	same(t, x, plain{"k": "v"})
}

// TestOldOnesBehindABoot: none of their calls panics, and none that only asks changes
// what a new one answers.
func TestOldOnesBehindABoot(t *testing.T) { // R3
	p, _, x := formatted(t, 60)
	m := plain{}
	for i := range 25 {
		puts(t, x, string([]byte{byte(i)}), strings.Repeat("v", 160))
		m[string([]byte{byte(i)})] = strings.Repeat("v", 160)
	}
	ok(t, x.Commit())
	for i := range 9 {
		puts(t, x, string([]byte{byte(i), 1}), strings.Repeat("w", 160))
	}
	p.Boot([]int{0, 1, 1})
	_, y := opens(t, p)
	for i := range 26 {
		x.Get([]byte{byte(i)})
		x.Get([]byte{byte(i), 1})
		x.List([]byte{byte(i)}, []byte{byte(i), 2})
	}
	x.List(nil, nil)
	same(t, y, m)
	for i := range 26 {
		puts(t, y, string([]byte{byte(i), 3}), strings.Repeat("y", i))
		if i%5 == 0 {
			ok(t, y.Commit())
		}
		x.List(nil, nil)
		x.Delete([]byte{byte(i)})
		x.Put([]byte{byte(i), 2}, make([]byte, 160))
		if i%4 == 0 {
			x.Commit()
		}
	}
}

// TestMemory: what is handed in is neither changed nor kept, what comes out is the
// caller's.
func TestMemory(t *testing.T) { // R5, R6
	_, _, x := formatted(t, 60)
	m := plain{}
	for i := range 20 {
		memory := bytes.Repeat([]byte{byte(i + 1)}, 300)
		was := bytes.Clone(memory)
		key, value := memory[:1+i], memory[100:100+8*i]
		ok(t, x.Put(key, value))
		m[string(was[:1+i])] = string(was[100 : 100+8*i])
		x.Get(memory[:1+i])
		x.List(memory[:1+i], memory[50:52])
		x.Delete(memory[200:224])
		if !bytes.Equal(memory, was) {
			t.Fatalf("a call changed what it was given")
		}
		clear(memory)
		same(t, x, m)
	}
	spoiled := func(b []byte) {
		b = b[:cap(b)]
		for i := range b {
			b[i] ^= 255
		}
	}
	first, _ := x.List(nil, nil)
	for i := range first {
		if want := string(first[i].Value); m[string(first[i].Key)] != want {
			t.Fatalf("pair %d was spoiled by another one", i)
		}
		b, _, _ := x.Get(first[i].Key)
		c, _, _ := x.Get(first[i].Key)
		spoiled(b)
		if len(c) > 0 && bytes.Equal(b, c) || string(c) != string(first[i].Value) {
			t.Fatalf("two answers share memory")
		}
		spoiled(first[i].Key)
		if len(first[i].Value) > 0 && first[i].Value[0] == ^byte(i+1) {
			t.Fatalf("key and value share memory")
		}
		spoiled(first[i].Value)
	}
	same(t, x, m)
	ok(t, x.Put([]byte("nil"), nil))
	ok(t, x.Put([]byte("empty"), []byte{}))
	m["nil"], m["empty"] = "", ""
	same(t, x, m)
}

// TestTwoDisks: two trees on two disks of a plant know nothing of one another.
func TestTwoDisks(t *testing.T) { // P10.1, P10.6
	p, e := plant.New(api.Shape{Disks: []int{162, 162, 162}, Tapes: []int{3}})
	ok(t, e)
	var trees []*Tree
	for dev := range 2 {
		ok(t, pager.Format(p, dev))
		g, e := pager.Open(p, dev)
		ok(t, e)
		trees = append(trees, Open(g))
	}
	puts(t, trees[0], "a", "0")
	puts(t, trees[1], "a", "1")
	ok(t, trees[0].Commit())
	puts(t, trees[1], "b", "1")
	same(t, trees[0], plain{"a": "0"})
	same(t, trees[1], plain{"a": "1", "b": "1"})
	p.Boot([]int{0})
	for dev, want := range []plain{{"a": "0"}, {}} {
		g, e := pager.Open(p, dev)
		ok(t, e)
		same(t, Open(g), want)
	}
	if had := content(t, p, 2); !bytes.Equal(had, make([]byte, len(had))) {
		t.Errorf("another disk was written to")
	}
}

// TestBetweenEnds: whoever goes through the pairs may leave at any of them.
func TestBetweenEnds(t *testing.T) { // P10.5
	_, _, x := formatted(t, 60)
	var keys []string
	for i := range 30 {
		keys = append(keys, string([]byte{byte(i)}))
		puts(t, x, keys[i], strings.Repeat("v", 160))
	}
	for n := 1; n <= 30; n++ {
		var got []string
		for p, e := range x.between(nil, nil) {
			ok(t, e)
			if got = append(got, string(p.Key)); len(got) == n {
				break
			}
		}
		if !slices.Equal(got, keys[:n]) {
			t.Fatalf("the first %d are %x", n, got)
		}
	}
}
