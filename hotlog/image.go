package hotlog

import (
	"slices"

	"muniment/api"
	"muniment/frame"
)

// A place has a frame, cut into pieces, one in each of its sectors; behind the last one
// there are noughts. The frame's payload is a label and the object's bytes. Each sector
// ends with a mark: the Append's tag, and which one of the place it is. No two Appends
// have one tag: so sectors that tell one tag, and are numbered from 0 on, are of one
// Append, and none of them is missing, whatever bytes a script has chosen. The check sum
// of the frame is there for rot.
//
// The one sector that a place has above its bytes has room for all that: the frame of
// MaxObject bytes takes 528 of the 531 that nine pieces have.
const (
	kind      = 'h'
	tagSize   = 4
	devSize   = 1
	atSize    = 2
	labelSize = tagSize + devSize + atSize
	markSize  = tagSize + 1
	pieceSize = api.SectorSize - markSize
)

// image is what a place has.
type image [][api.SectorSize]byte

// cost is how many sectors n bytes take.
func cost(n int) int { return 1 + (n+api.SectorSize-1)/api.SectorSize }

// imageOf is what an Append of b with this tag writes to a place.
func imageOf(x api.Place, tag uint64, b []byte) image {
	rest := frame.Pack(kind, append(label(x, tag), b...))
	sectors := make(image, cost(len(b)))
	for i := range sectors {
		n := copy(sectors[i][:pieceSize], rest)
		rest = rest[n:]
		copy(sectors[i][pieceSize:], mark(tag, i))
	}
	return sectors
}

// label tells of which place a frame is.
func label(x api.Place, tag uint64) []byte {
	b := frame.Number(nil, tag, tagSize)
	b = frame.Number(b, uint64(x.Dev), devSize)
	return frame.Number(b, uint64(x.At), atSize)
}

func mark(tag uint64, i int) []byte {
	return frame.Number(frame.Number(nil, tag, tagSize), uint64(i), markSize-tagSize)
}

// bytes are those of the Append that wrote just this to a place; false, if none did. What
// is there is held whole against what that Append wrote: so nothing of it goes unread, be
// it a mark, or the noughts at its end.
func (found image) bytes(x api.Place) ([]byte, bool) {
	tag, b, ok := found.unpack()
	if !ok || len(b) > api.MaxObject || !slices.Equal(imageOf(x, tag, b), found) {
		return nil, false
	}
	return b, true
}

// unpack tells tag and bytes of the frame that is there.
func (found image) unpack() (tag uint64, b []byte, ok bool) {
	var pieces []byte
	for i := range found {
		pieces = append(pieces, found[i][:pieceSize]...)
	}
	_, payload, _, e := frame.Unpack(pieces)
	if e != api.OK || len(payload) < labelSize {
		return 0, nil, false
	}
	tag, rest, _ := frame.Take(payload, tagSize)
	return tag, rest[labelSize-tagSize:], true
}
