package wal

import (
	"bytes"

	"muniment/api"
	"muniment/frame"
)

// The kinds of frames that fill a sector.
const (
	kindHead byte = 'J'
	kindPart byte = 'T'
)

// The sizes of what a sector has, in bytes. A part holds at least 32 bytes of its
// row: so no transaction takes more sectors than its cost.
const (
	frameSize   = 9 // of the frame, beside its payload
	payloadSize = api.SectorSize - frameSize
	sessionSize = 8
	indexSize   = 1
	lengthSize  = 2
	pieceSize   = payloadSize - sessionSize - indexSize - lengthSize
)

// maxSession is a bound for sessions that is never reached, so that there is
// always a next one.
const maxSession = 1 << 62

// head is what the first sector tells.
type head struct {
	session uint64 // the last one that was given
	first   uint64 // the first one since the journal had no transactions
}

func (h head) sector() []byte {
	b := frame.Number(nil, h.session, sessionSize)
	b = frame.Number(b, h.first, sessionSize)
	return sector(kindHead, b)
}

func headOf(b []byte) (head, bool) {
	p, ok := payload(kindHead, b)
	if !ok {
		return head{}, false
	}
	var h head
	h.session, p, _ = frame.Take(p, sessionSize)
	h.first, _, _ = frame.Take(p, sessionSize)
	return h, bytes.Equal(b, h.sector()) && h.first <= h.session && h.session < maxSession
}

// part is a sector of the log.
type part struct {
	session uint64
	index   int    // its number in its row, from 0 on
	length  int    // of all bytes of its row
	piece   []byte // of these bytes, and noughts where they end
}

func (x part) sector() []byte {
	b := frame.Number(nil, x.session, sessionSize)
	b = frame.Number(b, uint64(x.index), indexSize)
	b = frame.Number(b, uint64(x.length), lengthSize)
	return sector(kindPart, append(b, x.piece...))
}

func partOf(b []byte) (part, bool) {
	p, ok := payload(kindPart, b)
	if !ok {
		return part{}, false
	}
	session, p, _ := frame.Take(p, sessionSize)
	index, p, _ := frame.Take(p, indexSize)
	length, p, _ := frame.Take(p, lengthSize)
	x := part{session: session, index: int(index), length: int(length), piece: p}
	return x, x.index < sectors(x.length)
}

// isOf tells whether this is the part with the number n of a row whose first part
// is known. (A first part is held against itself.)
func (x part) isOf(first part, n int) bool {
	return x.session == first.session && x.length == first.length && x.index == n
}

// sector is a frame that fills one; noughts stand behind b.
func sector(kind byte, b []byte) []byte {
	full := make([]byte, payloadSize)
	copy(full, b)
	return frame.Pack(kind, full)
}

// payload is what a frame of this kind that fills a sector holds.
func payload(kind byte, b []byte) ([]byte, bool) {
	k, p, _, e := frame.Unpack(b)
	return p, e == api.OK && k == kind && len(p) == payloadSize
}

// blank are n sectors that have nothing but noughts: no frame is like that.
func blank(n int) [][]byte {
	row := make([][]byte, n)
	for i := range row {
		row[i] = make([]byte, api.SectorSize)
	}
	return row
}

func isBlank(b []byte) bool { return bytes.Equal(b, blank(1)[0]) }

// sectors is how many a row of so many bytes takes: one at least.
func sectors(length int) int {
	return max(1, (length+pieceSize-1)/pieceSize)
}

// rowOf are the sectors of a row with these bytes.
func rowOf(session uint64, b []byte) [][]byte {
	row := make([][]byte, sectors(len(b)))
	for i := range row {
		from := i * pieceSize
		to := min(from+pieceSize, len(b))
		row[i] = part{session: session, index: i, length: len(b), piece: b[from:to:to]}.sector()
	}
	return row
}
