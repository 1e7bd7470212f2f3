package scrub

import (
	"muniment/api"
	"muniment/chunk"
	"muniment/record"
)

// sight is what was found at those places of a record that are not Bad.
type sight struct {
	wrong []int       // which of them are not right, by their numbers in the record
	hot   bool        // whether the hot disk has a right copy
	tapes map[int]int // how many right copies a tape has, by the tape's number; only tapes that have any
	bytes []byte      // those of a right copy
}

// look reads all places of a record that are not Bad.
func (s *Scrubber) look(r api.Record) (sight, api.Errno) {
	found := sight{tapes: map[int]int{}}
	isRight := func(b []byte) bool { return len(b) == r.Length && chunk.Root(b) == r.Root }
	for i, x := range r.Copies {
		if x.Bad {
			continue
		}
		tape, b, e := s.read(r.ID, x)
		switch {
		case e == api.ErrPower:
			return sight{}, e
		case e != api.OK || !isRight(b):
			found.wrong = append(found.wrong, i)
			continue
		case isHot(x):
			found.hot = true
		default:
			found.tapes[tape]++
		}
		found.bytes = b
	}
	return found, api.OK
}

// read tells the bytes that an object has at a place, and which tape that is on, if it is
// on one. Each tape is asked: it answers ErrCorrupt for places of any Dev but its own.
func (s *Scrubber) read(id string, x api.Place) (tape int, b []byte, e api.Errno) {
	if isHot(x) {
		b, e = s.h.Read(x)
		return 0, b, e
	}
	for k, v := range s.tapes {
		name, b, e := v.Read(x)
		if e == api.ErrPower || e == api.OK && name == id {
			return k, b, e
		}
	}
	return 0, nil, api.ErrCorrupt
}

// keyOf is the key of an id's record in the catalogue.
func keyOf(id string) []byte { return []byte("o" + id) }

// recordOf is the record of a key and its value; false, if these are no record's.
func recordOf(p api.Pair) (api.Record, bool) {
	r, e := record.Decode(p.Value)
	return r, e == api.OK && string(p.Key) == string(keyOf(r.ID))
}

func isHot(x api.Place) bool { return x.Dev == api.DevHot }
