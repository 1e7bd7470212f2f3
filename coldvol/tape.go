package coldvol

import (
	"muniment/api"
	"muniment/plant"
)

const (
	tagSize   = 8
	pieceSize = api.SectorSize - tagSize
)

// What a block's row is.
const (
	ofObject = 'o'
	ofEnd    = 'e'
)

// tag says whose a block is: of what kind its row is, where that begins, and which block
// of it this one is. It is never all noughts.
type tag [tagSize]byte

func tagOf(kind byte, dev, at, i int) tag {
	return tag{kind, byte(dev), byte(at >> 8), byte(at), byte(i)}
}

type piece [pieceSize]byte

// pieceWith has as much of b as goes in, and noughts behind that.
func pieceWith(b []byte) piece {
	var c piece
	copy(c[:], b)
	return c
}

// block is a piece of something, and behind it whose it is: what is torn of a block is
// its last half, so that no torn one has a tag.
type block struct {
	piece
	tag
}

// tape is one of a plant's.
type tape struct {
	p    *plant.Plant
	dev  int
	size int // how many blocks it may have
}

// length is how many blocks it has.
func (t tape) length() int {
	n, _ := t.p.Len(t.dev)
	return n
}

// left is how many blocks may still be written.
func (t tape) left() int { return t.size - t.length() }

// write lays blocks down behind all others.
func (t tape) write(blocks []block) api.Errno {
	for _, k := range blocks {
		if _, e := t.p.Append(t.dev, append(k.piece[:], k.tag[:]...)); e != api.OK {
			return e
		}
	}
	return api.OK
}

// read tells n blocks from a number on; ErrCorrupt, if the tape has not all of them.
func (t tape) read(at, n int) ([]block, api.Errno) {
	if at < 0 || n < 0 || at > t.length()-n {
		return nil, api.ErrCorrupt
	}
	found := make([]block, n)
	for i := range found {
		b, e := t.p.Read(t.dev, at+i)
		if e != api.OK {
			return nil, e
		}
		found[i] = block{pieceWith(b), tag(b[pieceSize:])}
	}
	return found, api.OK
}

// objectAt is the one that begins at a block; ErrCorrupt, if none does.
func (t tape) objectAt(at int) (object, api.Errno) {
	head, e := t.read(at, 1)
	if e != api.OK {
		return object{}, e
	}
	_, length, ok := head[0].label()
	if !ok {
		return object{}, api.ErrCorrupt
	}
	x := api.Place{Dev: t.dev, At: at, Len: Blocks(length)}
	found, e := t.read(at, x.Len)
	if e != api.OK {
		return object{}, e
	}
	o, ok := objectOf(x, found)
	if !ok {
		return object{}, api.ErrCorrupt
	}
	return o, api.OK
}

// end is the root of the end that the tape has, if it has one. Nothing is written behind
// an end: so its first block is one of the tape's last two (the last one, where a crash
// took the other one away).
func (t tape) end() (api.Hash, bool, api.Errno) {
	n := t.length()
	for at := max(0, n-endBlocks); at < n; at++ {
		found, e := t.read(at, n-at)
		if e != api.OK {
			return api.Hash{}, false, e
		}
		if root, ok := rootOfEnd(t.dev, at, found); ok {
			return root, true, api.OK
		}
	}
	return api.Hash{}, false, api.OK
}
