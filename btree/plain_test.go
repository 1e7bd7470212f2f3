package btree

import (
	"bytes"
	"maps"
	"math/rand"
	"slices"
	"strings"
	"testing"

	"muniment/api"
	"muniment/pager"
	"muniment/plant"
)

// plain is a tree as the chapter's words have it: a row of pairs.
type plain map[string]string

// list are the pairs from one key on that are ahead of another one.
func (m plain) list(from, to string) []string {
	var l []string
	for _, k := range slices.Sorted(maps.Keys(m)) {
		if k >= from && (to == "" || k < to) {
			l = append(l, k, m[k])
		}
	}
	return l
}

// told are the pairs of an answer, as plain tells them.
func told(pairs []api.Pair) []string {
	var l []string
	for _, p := range pairs {
		l = append(l, string(p.Key), string(p.Value))
	}
	return l
}

// like tells whether x has just m's pairs, asked by List alone.
func (m plain) like(x *Tree) bool {
	l, e := x.List(nil, nil)
	return e == api.OK && slices.Equal(told(l), m.list("", ""))
}

// same holds x against m by each kind of question.
func same(t *testing.T, x *Tree, m plain) {
	t.Helper()
	lists(t, x, "", "", m)
	for k, v := range m {
		gets(t, x, k, v)
		for _, near := range []string{k[:len(k)-1], k + "\x00", k + "\xff"} {
			if _, is := m[near]; !is {
				getsNot(t, x, near)
			}
		}
	}
}

// lists holds one List against m.
func lists(t *testing.T, x *Tree, from, to string, m plain) {
	t.Helper()
	l, e := x.List([]byte(from), []byte(to))
	if want := m.list(from, to); e != api.OK || !slices.Equal(told(l), want) {
		t.Fatalf("List(%x, %x): %d, %x; want %x", from, to, e, told(l), want)
	}
}

// nodesOf are all nodes of a tree, by their pages.
func nodesOf(t *testing.T, x *Tree) map[int]*node {
	t.Helper()
	all := map[int]*node{}
	if x.root == none {
		return all
	}
	var add func(n *node, e api.Errno)
	add = func(n *node, e api.Errno) {
		ok(t, e)
		if all[n.page] != nil {
			t.Fatalf("page %d is at two places", n.page)
		}
		all[n.page] = n
		for i := range n.kids {
			add(x.kid(n, i))
		}
	}
	add(x.top())
	return all
}

// inUse are the pages of a pager that are.
func inUse(g *pager.Pager) []int {
	var l []int
	for page := range api.MaxPages {
		if _, e := g.Read(page); e != api.ErrPage {
			l = append(l, page)
		}
	}
	return l
}

// takes holds the pages of a tree at any time: no more than keys, and nothing else is
// in use but what waits for Commit.
func takes(t *testing.T, x *Tree, m plain) {
	t.Helper()
	nodes := nodesOf(t, x)
	if len(nodes) > len(m) {
		t.Fatalf("%d pages for %d keys", len(nodes), len(m))
	}
	for _, page := range inUse(x.g) {
		if nodes[page] == nil && !x.left[page] {
			t.Fatalf("page %d is nobody's", page)
		}
		if nodes[page] != nil && x.left[page] {
			t.Fatalf("page %d is the tree's, and was left", page)
		}
	}
}

// commits commits, and holds the pager's room (P10.7).
func commits(t *testing.T, x *Tree, m plain, pages int) {
	t.Helper()
	ok(t, x.Commit())
	if room := x.g.Room(); room < pages-len(m) {
		t.Fatalf("room for %d of %d pages with %d keys", room, pages, len(m))
	}
	if room, nodes := x.g.Room(), len(nodesOf(t, x)); room != pages-nodes {
		t.Fatalf("room for %d of %d pages with %d nodes", room, pages, nodes)
	}
}

// maker makes keys and values of a certain kind.
type maker struct {
	r       *rand.Rand
	letters string
	maxKey  int
	values  []int // lengths; -1 is any
}

func someMaker(r *rand.Rand) maker {
	return maker{
		r:       r,
		letters: []string{"ab", "\x00\x01\xff", "0123456789", "abcdefghijklmnopqrstuvwxyz"}[r.Intn(4)],
		maxKey:  []int{1, 2, 3, 24}[r.Intn(4)],
		values:  [][]int{{0}, {160}, {0, 160}, {0, 1, 159, 160}, {-1}, {0, 0, 0, 0, 160, -1}}[r.Intn(6)],
	}
}

func (k maker) key() string {
	n := 1 + k.r.Intn(k.maxKey)
	if k.r.Intn(4) == 0 {
		n = k.maxKey
	}
	var b strings.Builder
	for range n {
		b.WriteByte(k.letters[k.r.Intn(len(k.letters))])
	}
	return b.String()
}

func (k maker) value() string {
	n := k.values[k.r.Intn(len(k.values))]
	if n < 0 {
		n = k.r.Intn(161)
	}
	return string(someBytes(k.r, n))
}

// known is a key of m more often than not.
func (k maker) known(m plain) string {
	if len(m) == 0 || k.r.Intn(4) == 0 {
		return k.key()
	}
	return slices.Sorted(maps.Keys(m))[k.r.Intn(len(m))]
}

// tryPut puts in both. ErrFull may be answered only where the pager has room for less
// than 16 pages.
func tryPut(t *testing.T, x *Tree, m plain, key, value string) {
	t.Helper()
	room := x.g.Room()
	switch e := x.Put([]byte(key), []byte(value)); {
	case e == api.OK:
		m[key] = value
	case e != api.ErrFull || room >= 16:
		t.Fatalf("Put(%x, %d bytes) with room for %d: %d", key, len(value), room, e)
	case x.g.Room() != room:
		t.Fatalf("Put(%x) took room, and answered ErrFull", key)
	}
}

func tryDelete(t *testing.T, x *Tree, m plain, key string) {
	t.Helper()
	room := x.g.Room()
	_, was := m[key]
	switch is, e := x.Delete([]byte(key)); {
	case e == api.OK && is == was:
		delete(m, key)
	case e != api.ErrFull || is || !was || room >= 16:
		t.Fatalf("Delete(%x) with room for %d: %v, %d; want %v", key, room, is, e, was)
	case x.g.Room() != room:
		t.Fatalf("Delete(%x) took room, and answered ErrFull", key)
	}
}

// anyCalls does calls of all kinds on a disk of so many pages, which come and go
// more often by turns.
func anyCalls(t *testing.T, seed int64, pages, count int) {
	t.Helper()
	r := rand.New(rand.NewSource(seed))
	k := someMaker(r)
	p, _, x := formatted(t, pages)
	m, committed := plain{}, plain{}
	for i := range count {
		puts := 12 + 16*(1-i/(count/4)%2)
		switch c := r.Intn(48); {
		case c < puts:
			tryPut(t, x, m, k.known(m), k.value())
		case c < 40:
			tryDelete(t, x, m, k.known(m))
		case c < 44:
			lists(t, x, k.known(m), k.known(m), m)
		case c < 47:
			commits(t, x, m, pages)
			committed = maps.Clone(m)
		default:
			if r.Intn(2) == 0 {
				p.Boot([]int{r.Intn(2), r.Intn(2), r.Intn(2)})
			}
			_, x = opens(t, p)
			m = maps.Clone(committed)
		}
		if i%16 == 0 {
			same(t, x, m)
			takes(t, x, m)
		}
	}
	same(t, x, m)
	commits(t, x, m, pages)
	p.Boot(nil)
	_, x = opens(t, p)
	same(t, x, m)
}

func TestAnyCallsAreAsWritten(t *testing.T) { // P10.1 to P10.7, P10.10
	t.Parallel()
	for seed := range int64(540) {
		anyCalls(t, seed, []int{1, 2, 3, 7, 16, 17, 24, 48, 100}[seed%9], 240)
	}
	for seed := range int64(16) {
		anyCalls(t, seed, 384, 1600)
	}
}

// emptied takes all keys away, in an order, with a Commit now and then.
func emptied(t *testing.T, x *Tree, m plain, pages, each int, order []string) {
	t.Helper()
	for i, key := range order {
		deletes(t, x, key)
		delete(m, key)
		if i%each == 0 {
			commits(t, x, m, pages)
			takes(t, x, m)
			lists(t, x, "", "", m)
		}
	}
	commits(t, x, m, pages)
	if x.root != none || x.g.Root() != -1 || x.g.Room() != pages {
		t.Fatalf("root %d, room for %d of %d, without keys", x.g.Root(), x.g.Room(), pages)
	}
}

// TestPagesBehindEachCommit: while keys come, and while they go, in several orders.
func TestPagesBehindEachCommit(t *testing.T) { // P10.7
	t.Parallel()
	for seed := range int64(18) {
		r := rand.New(rand.NewSource(seed))
		length := [][]int{{160}, {0}, {0, 160}, {80, 100}}[seed%4]
		var keys []string
		for i := range 170 {
			keys = append(keys, string([]byte{byte(i / 13), byte(i % 13)})+strings.Repeat("k", r.Intn(23)))
		}
		slices.Sort(keys)
		up, down, mixed := slices.Clone(keys), slices.Clone(keys), slices.Clone(keys)
		slices.Reverse(down)
		r.Shuffle(len(mixed), func(i, j int) { mixed[i], mixed[j] = mixed[j], mixed[i] })
		orders := [][]string{up, down, mixed}
		_, _, x := formatted(t, 384)
		m := plain{}
		for _, key := range orders[seed%3] {
			value := string(someBytes(r, length[r.Intn(len(length))]))
			puts(t, x, key, value)
			m[key] = value
			commits(t, x, m, 384)
		}
		same(t, x, m)
		emptied(t, x, m, 384, 1+int(seed)%5, orders[seed/3%3])
	}
}

// TestMostAreDeleted: what stays is far apart, and takes no more pages than it may.
func TestMostAreDeleted(t *testing.T) { // P10.7
	for _, every := range []int{2, 3, 7, 50, 149, 1000} {
		_, _, x := formatted(t, 384)
		m := plain{}
		for i := range 150 {
			key, value := string([]byte{byte(i), 1}), strings.Repeat("v", 160-i%2*150)
			puts(t, x, key, value)
			m[key] = value
		}
		commits(t, x, m, 384)
		for i := range 150 {
			if i%every != 1 {
				deletes(t, x, string([]byte{byte(i), 1}))
				delete(m, string([]byte{byte(i), 1}))
			}
		}
		commits(t, x, m, 384)
		same(t, x, m)
	}
}

// TestValuesThatChange: longer and shorter, in nodes of each level.
func TestValuesThatChange(t *testing.T) { // P10.3, P10.7
	r := rand.New(rand.NewSource(3))
	p, _, x := formatted(t, 384)
	m := plain{}
	for i := range 2500 {
		key := string([]byte{'k', byte(r.Intn(90))})
		value := strings.Repeat("v", []int{0, 160, r.Intn(161)}[i/200%3])
		puts(t, x, key, value)
		m[key] = value
		if i%25 == 0 {
			commits(t, x, m, 384)
			same(t, x, m)
		}
	}
	commits(t, x, m, 384)
	_, x = opens(t, p)
	same(t, x, m)
}

// TestRowsThatLeadToTheSame: whichever way the pairs came, the answers are the same.
func TestRowsThatLeadToTheSame(t *testing.T) { // P10.10
	t.Parallel()
	for seed := range int64(20) {
		r := rand.New(rand.NewSource(seed))
		k := someMaker(r)
		m := plain{}
		for range 80 {
			m[k.key()] = k.value()
		}
		var trees []*Tree
		for way := range 5 {
			p, _, x := formatted(t, 384)
			trees = append(trees, led(t, r, k, p, x, m, way))
		}
		asked := append(slices.Sorted(maps.Keys(m)), "", "a", k.key(), k.key(), "\xff")
		for _, x := range trees {
			same(t, x, m)
			for _, from := range asked {
				lists(t, x, from, asked[r.Intn(len(asked))], m)
			}
		}
		for _, key := range asked {
			_, was := m[key]
			for _, x := range trees {
				if is, e := x.Delete([]byte(key)); is != was || e != api.OK {
					t.Fatalf("Delete(%x): %v, %d; want %v", key, is, e, was)
				}
			}
			delete(m, key)
		}
	}
}

// led brings a tree to m's pairs: by rising keys, by falling ones, in any order, with
// others that are deleted again, or with other values first.
func led(t *testing.T, r *rand.Rand, k maker, p *plant.Plant, x *Tree, m plain, way int) *Tree {
	t.Helper()
	keys := slices.Sorted(maps.Keys(m))
	switch way {
	case 1:
		slices.Reverse(keys)
	case 2, 3, 4:
		r.Shuffle(len(keys), func(i, j int) { keys[i], keys[j] = keys[j], keys[i] })
	}
	has := plain{}
	for _, key := range keys {
		if way == 3 {
			tryPut(t, x, has, k.key(), k.value())
		}
		if way == 4 {
			tryPut(t, x, has, key, k.value())
		}
	}
	for i, key := range keys {
		tryPut(t, x, has, key, m[key])
		if i%20 == 7*way {
			ok(t, x.Commit())
			_, x = opens(t, p)
		}
	}
	for _, key := range slices.Sorted(maps.Keys(has)) {
		if _, is := m[key]; !is {
			tryDelete(t, x, has, key)
		}
	}
	return x
}

// TestAllRowsOfFewCalls: each row of a few calls with a few keys, against plain.
func TestAllRowsOfFewCalls(t *testing.T) { // P10.2 to P10.5, P10.10
	keys := []string{"a", "ab", "b"}
	value := strings.Repeat("v", 160) + "w"
	p, _, _ := formatted(t, 24)
	for row := range 7 * 7 * 7 * 7 {
		_, x := opens(t, p)
		m := plain{}
		for rest := row; rest > 0; rest /= 7 {
			if c := rest % 7; c < 3 {
				tryPut(t, x, m, keys[c], value[rest%2:160])
			} else if c < 6 {
				tryDelete(t, x, m, keys[c-3])
			}
		}
		same(t, x, m)
		takes(t, x, m)
	}
}

func someBytes(r *rand.Rand, n int) []byte {
	b := make([]byte, n)
	r.Read(b)
	return b
}

// content is all that a disk has.
func content(t *testing.T, p *plant.Plant, dev int) []byte {
	t.Helper()
	n, e := p.Len(dev)
	ok(t, e)
	var all [][]byte
	for i := range n {
		b, e := p.Read(dev, i)
		ok(t, e)
		all = append(all, b)
	}
	return bytes.Join(all, nil)
}
