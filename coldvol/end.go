package coldvol

import (
	"muniment/api"
	"muniment/frame"
)

// endBlocks is how many blocks a tape's end has. Each of them tells the root: the first
// one alone makes a tape sealed, so that no crash leaves half an end; the other one is
// there for rot.
const endBlocks = 2

// endOf is the end, from a block on.
func endOf(dev, at int, root api.Hash) []block {
	row := make([]block, endBlocks)
	for i := range row {
		row[i] = block{pieceWith(frame.Pack(ofEnd, root[:])), tagOf(ofEnd, dev, at, i)}
	}
	return row
}

// rootOfEnd is the root that a block of an end tells, if the end begins with the first of
// these; false, if none of them is of one.
func rootOfEnd(dev, at int, found []block) (api.Hash, bool) {
	for i, k := range found {
		_, payload, _, e := frame.Unpack(k.piece[:])
		if e != api.OK || len(payload) != len(api.Hash{}) {
			continue
		}
		if root := api.Hash(payload); endOf(dev, at, root)[i] == k {
			return root, true
		}
	}
	return api.Hash{}, false
}
