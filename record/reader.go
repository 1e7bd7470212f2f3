package record

import (
	"muniment/api"
	"muniment/frame"
)

// reader takes bytes from the front. Where they can't be what is read it gives up:
// by a panic, so that no reading ahead of it has to ask.
type reader struct{ left []byte }

type giveUp struct{}

// readsAll tells whether read took all of b, and did not give up.
func readsAll(b []byte, read func(in *reader)) (ok bool) {
	defer func() {
		if recover() != nil {
			ok = false
		}
	}()
	in := &reader{left: b}
	read(in)
	return len(in.left) == 0
}

// must gives up, unless it holds.
func must(holds bool) {
	if !holds {
		panic(giveUp{})
	}
}

func (in *reader) take(size int) []byte {
	must(size <= len(in.left))
	piece := in.left[:size:size]
	in.left = in.left[size:]
	return piece
}

// number hands on no more than the number's own bytes: what is behind them may be
// long, and is not to be copied for each number.
func (in *reader) number(size int) int {
	n, _, e := frame.Take(in.take(size), size)
	must(e == api.OK)
	return int(n)
}

// upTo is a byte that is not above most.
func (in *reader) upTo(most int) int {
	n := in.number(1)
	must(n <= most)
	return n
}

func (in *reader) entry() (id string, length int, root api.Hash) {
	id = string(in.take(in.number(1)))
	length = in.number(lengthSize)
	copy(root[:], in.take(len(root)))
	must(entryHolds(id, length))
	return id, length, root
}

func (in *reader) record() api.Record {
	var r api.Record
	r.ID, r.Length, r.Root = in.entry()
	r.Index = in.number(indexSize)
	r.Expiry = in.number(expirySize)
	flags := in.upTo(maxFlags)
	r.Hold, r.Gone = flags&flagHold != 0, flags&flagGone != 0
	for range in.number(1) {
		r.Copies = append(r.Copies, in.place())
	}
	must(restHolds(r))
	return r
}

func (in *reader) place() api.Place {
	dev := in.number(1)
	at := in.number(atSize)
	size := in.number(1)
	return api.Place{Dev: dev, At: at, Len: size, Bad: in.upTo(1) == 1}
}
