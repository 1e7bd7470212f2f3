package coldvol

import (
	"muniment/api"
	"muniment/chunk"
	"muniment/frame"
	"muniment/tree"
)

const lengthSize = 2

// object is one on a tape. Its first block has its label in a frame, its last one a hash
// of label and bytes; its bytes are between them, piece by piece.
type object struct {
	api.Place
	id    string
	bytes []byte
}

// label tells how many bytes an object has, and its id.
func label(length int, id string) []byte {
	return append(frame.Number(nil, uint64(length), lengthSize), id...)
}

// label is what an object's first piece tells; false, if it tells nothing.
func (c piece) label() (id string, length int, ok bool) {
	_, payload, _, e := frame.Unpack(c[:])
	if e != api.OK {
		return "", 0, false
	}
	n, name, e := frame.Take(payload, lengthSize)
	return string(name), int(n), e == api.OK && isName(string(name))
}

// hash is another one for each label and bytes.
func (o object) hash() api.Hash {
	return tree.Node(tree.Leaf(label(len(o.bytes), o.id)), chunk.Root(o.bytes))
}

// pieces are what the object's blocks have.
func (o object) pieces() []piece {
	hash := o.hash()
	row := []piece{pieceWith(frame.Pack(ofObject, label(len(o.bytes), o.id)))}
	for rest := o.bytes; len(rest) > 0; rest = rest[min(len(rest), pieceSize):] {
		row = append(row, pieceWith(rest))
	}
	return append(row, pieceWith(hash[:]))
}

// tag is that of the object's block i.
func (o object) tag(i int) tag { return tagOf(ofObject, o.Dev, o.At, i) }

// blocks are all that the object is on its tape.
func (o object) blocks() []block {
	var row []block
	for i, c := range o.pieces() {
		row = append(row, block{c, o.tag(i)})
	}
	return row
}

// objectOf is the one whose blocks are just these; false, if there is none. Tags tell
// whether they are one object's; then what they have is held whole against what Append
// writes of it, so that nothing that rotted goes unread.
func objectOf(x api.Place, found []block) (object, bool) {
	if len(found) == 0 {
		return object{}, false
	}
	id, length, ok := found[0].label()
	if !ok || Blocks(length) != len(found) {
		return object{}, false
	}
	o := object{Place: x, id: id}
	for i, k := range found {
		if k.tag != o.tag(i) {
			return object{}, false
		}
		if i > 0 {
			o.bytes = append(o.bytes, k.piece[:]...)
		}
	}
	o.bytes = o.bytes[:length]
	for i, c := range o.pieces() {
		if found[i].piece != c {
			return object{}, false
		}
	}
	return o, true
}

// isName tells whether a text is one that an object may have.
func isName(id string) bool {
	if len(id) < 1 || len(id) > api.MaxID {
		return false
	}
	for _, c := range []byte(id) {
		if !(c >= 'a' && c <= 'z' || c >= '0' && c <= '9' || c == '-' || c == '.') {
			return false
		}
	}
	return true
}
