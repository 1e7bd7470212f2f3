package btree

import (
	"slices"

	"muniment/api"
)

// change brings the nodes of a way, whose last one was changed, into new pages. All
// is made ready ahead of the first Put: an error by then has changed nothing.
func (t *Tree) change(way []spot) api.Errno {
	// A root that is split needs a node above it.
	above := spot{n: &node{level: way[0].n.level + 1, kids: make([]kid, 1)}}
	var gone []int
	for at := len(way) - 1; at >= 0; at-- {
		up := above
		if at > 0 {
			up = way[at-1]
		}
		pages, e := t.settle(up, way[at].n)
		if e != api.OK {
			return e
		}
		gone = append(gone, pages...)
	}
	root, e := t.layRoot(crown(kid{fresh: above.n}))
	if e != api.OK {
		return e
	}
	t.root = root
	for _, page := range gone {
		t.leave(page)
	}
	return api.OK
}

// settle makes a changed node the kid at a spot: joined with one beside it, if it has
// no pair any more, and split, if it is too long. The pages are those of the nodes
// whose place was taken.
func (t *Tree) settle(up spot, n *node) ([]int, api.Errno) {
	var gone []int
	if n.page != none {
		gone = append(gone, n.page)
	}
	i := up.i
	if len(n.pairs) == 0 && len(up.n.pairs) > 0 {
		joined, beside, e := t.joinBeside(up, n)
		if e != api.OK {
			return nil, e
		}
		n, gone = joined, append(gone, beside)
		i = max(i-1, 0)
		up.n.pairs = slices.Delete(up.n.pairs, i, i+1)
		up.n.kids = slices.Delete(up.n.kids, i, i+1)
	}
	up.n.kids[i] = kid{fresh: n}
	if n.isLong() {
		middle, right := n.split()
		up.n.pairs = slices.Insert(up.n.pairs, i, middle)
		up.n.kids = slices.Insert(up.n.kids, i+1, kid{fresh: right})
	}
	return gone, api.OK
}

// joinBeside joins the kid at a spot with the one ahead of it, or, if it is the first
// one, with the one behind it; with the page of that one.
func (t *Tree) joinBeside(up spot, n *node) (*node, int, api.Errno) {
	if up.i == 0 {
		right, e := t.kid(up.n, 1)
		if e != api.OK {
			return nil, 0, e
		}
		return join(n, up.n.pairs[0], right), right.page, api.OK
	}
	left, e := t.kid(up.n, up.i-1)
	if e != api.OK {
		return nil, 0, e
	}
	return join(left, up.n.pairs[up.i-1], n), left.page, api.OK
}

// crown is the root of what is at a kid: nodes without a pair are none, and so is a
// tree that has no other ones.
func crown(k kid) kid {
	for k.fresh != nil && len(k.fresh.pairs) == 0 {
		if k.fresh.level == 0 {
			return kid{page: none}
		}
		k = k.fresh.kids[0]
	}
	return k
}

// layRoot lays all of a new tree down that is not in pages; where its root is.
func (t *Tree) layRoot(k kid) (int, api.Errno) {
	switch {
	case k.fresh == nil:
		return k.page, api.OK
	case k.fresh.level > maxLevel: // what is below can't all be a tree's
		return 0, api.ErrCorrupt
	case k.fresh.newPages() > t.g.Room():
		return 0, api.ErrFull
	}
	return t.lay(k.fresh)
}

// lay puts a node in a page, behind those below it.
func (t *Tree) lay(n *node) (int, api.Errno) {
	for i, k := range n.kids {
		if k.fresh == nil {
			continue
		}
		page, e := t.lay(k.fresh)
		if e != api.OK {
			return 0, e
		}
		n.kids[i] = kid{page: page}
	}
	page, e := t.g.Put(n.bytes())
	if e != api.OK {
		return 0, e
	}
	t.made[page] = true
	return page, api.OK
}

// leave gives a page up. One that is committed stays in use till Commit, as it can't be
// free any earlier: so another tree that is opened on the pager meanwhile has all that
// was committed.
func (t *Tree) leave(page int) {
	if t.made[page] {
		t.g.Free(page)
	} else {
		t.left[page] = true
	}
}
