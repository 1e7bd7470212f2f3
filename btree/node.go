package btree

import (
	"bytes"
	"slices"

	"muniment/api"
)

// A node's page: the mark, the level, and pair behind pair, each one as the key's
// length, the value's length, the key, the value. Unless the node is a leaf, a kid's
// page stands ahead of the first pair and behind each one.
const (
	mark     = "BT"
	headSize = len(mark) + 1
	pairSize = 2 // beside key and value
	kidSize  = 2
)

// maxLevel is the root's at the most: each node has a pair, so two kids at least,
// and a tree of one level more would have more nodes than there are pages.
const maxLevel = 7

// node is a page of a tree, as it was read or as it is to be laid down.
type node struct {
	page      int    // where it was read
	low, high []byte // its keys are between them (where there is none: no bound)
	level     int    // how many levels are below it; 0: a leaf
	pairs     []api.Pair
	kids      []kid // one more than pairs; a leaf has none
}

// kid is a node below another one: in a page, or still to be laid down.
type kid struct {
	page  int
	fresh *node
}

func isKey(key []byte) bool { return len(key) >= 1 && len(key) <= api.MaxKey }

func isValue(value []byte) bool { return len(value) <= api.MaxValue }

// find is the place of a key among the pairs, or where it would be: so of the kid
// that may have it.
func (n *node) find(key []byte) (int, bool) {
	return slices.BinarySearchFunc(n.pairs, key, func(p api.Pair, key []byte) int {
		return bytes.Compare(p.Key, key)
	})
}

// cost is how many bytes a pair takes, with the kid behind it.
func (n *node) cost(p api.Pair) int {
	size := pairSize + len(p.Key) + len(p.Value)
	if n.level > 0 {
		size += kidSize
	}
	return size
}

// load is what all pairs cost.
func (n *node) load() int {
	size := 0
	for _, p := range n.pairs {
		size += n.cost(p)
	}
	return size
}

// isLong tells whether the node is too long for a page.
func (n *node) isLong() bool {
	size := headSize + n.load()
	if n.level > 0 {
		size += kidSize
	}
	return size > api.PageBytes
}

// split leaves the node its first pairs, and gives the one in the middle and a node
// of the others. Of a long node no pair is half: so both have some.
func (n *node) split() (api.Pair, *node) {
	all := n.load()
	m, size := 0, n.cost(n.pairs[0])
	for 2*size < all {
		m++
		size += n.cost(n.pairs[m])
	}
	middle := n.pairs[m]
	right := &node{level: n.level, pairs: slices.Clone(n.pairs[m+1:])}
	n.pairs = n.pairs[:m:m]
	if n.level > 0 {
		right.kids = slices.Clone(n.kids[m+1:])
		n.kids = n.kids[: m+1 : m+1]
	}
	return middle, right
}

// join is one node of two that are next to one another, and of the pair between
// them.
func join(left *node, middle api.Pair, right *node) *node {
	return &node{
		level: left.level,
		pairs: slices.Concat(left.pairs, []api.Pair{middle}, right.pairs),
		kids:  slices.Concat(left.kids, right.kids),
	}
}

// newPages is how many pages it takes to lay the node down, with those below it that
// are in none.
func (n *node) newPages() int {
	count := 1
	for _, k := range n.kids {
		if k.fresh != nil {
			count += k.fresh.newPages()
		}
	}
	return count
}

// bytes is the node's page, when all its kids are in pages.
func (n *node) bytes() []byte {
	b := append([]byte(mark), byte(n.level))
	if n.level > 0 {
		b = n.kids[0].lay(b)
	}
	for i, p := range n.pairs {
		b = append(b, byte(len(p.Key)), byte(len(p.Value)))
		b = append(b, p.Key...)
		b = append(b, p.Value...)
		if n.level > 0 {
			b = n.kids[i+1].lay(b)
		}
	}
	return b
}

// lay puts the kid's page behind b.
func (k kid) lay(b []byte) []byte { return append(b, byte(k.page>>8), byte(k.page)) }

// parse is the node of a page; false, if it is none of a tree's.
func parse(b []byte) (*node, bool) {
	r := reader{rest: b}
	if string(r.take(len(mark))) != mark {
		return nil, false
	}
	n := &node{level: int(r.number(1))}
	if n.level > 0 {
		n.kids = append(n.kids, r.kid())
	}
	for len(r.rest) > 0 {
		n.pairs = append(n.pairs, r.pair())
		if n.level > 0 {
			n.kids = append(n.kids, r.kid())
		}
	}
	return n, !r.bad && n.level <= maxLevel && len(n.pairs) > 0
}

// reader takes a page's bytes from the front.
type reader struct {
	rest []byte
	bad  bool // there were too few, or such as may not be
}

func (r *reader) take(size int) []byte {
	if size > len(r.rest) {
		r.rest, r.bad = nil, true
		return nil
	}
	b := r.rest[:size:size]
	r.rest = r.rest[size:]
	return b
}

func (r *reader) number(size int) int {
	n := 0
	for _, c := range r.take(size) {
		n = n<<8 | int(c)
	}
	return n
}

func (r *reader) kid() kid { return kid{page: r.number(kidSize)} }

func (r *reader) pair() api.Pair {
	keySize, valueSize := r.number(1), r.number(1)
	p := api.Pair{Key: r.take(keySize), Value: r.take(valueSize)}
	r.bad = r.bad || !isKey(p.Key) || !isValue(p.Value)
	return p
}

// holds tells whether the keys rise, from behind low to ahead of high.
func (n *node) holds(low, high []byte) bool {
	for _, p := range n.pairs {
		if bytes.Compare(p.Key, low) <= 0 {
			return false
		}
		low = p.Key
	}
	return len(high) == 0 || bytes.Compare(low, high) < 0
}
