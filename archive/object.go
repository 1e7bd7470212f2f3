package archive

import (
	"muniment/api"
	"muniment/chunk"
	"muniment/record"
	"muniment/retain"
)

// Put brings an object in.
func (a *Archive) Put(id string, b []byte) api.Errno {
	return a.call(func() {
		need(record.Name(id), api.ErrID)
		need(len(b) <= api.MaxObject, api.ErrLong)
		_, isThere := a.lookUp(id)
		need(!isThere, api.ErrTwice)
		a.bringIn(id, b)
	})
}

// bringIn makes an object be there, with its entry in the ledger: both or none, by one
// transaction of the catalogue.
func (a *Archive) bringIn(id string, b []byte) {
	r := api.Record{ID: id, Length: len(b), Root: chunk.Root(b), Index: a.ledger.Size()}
	entry := must(record.Entry(id, r.Length, r.Root))
	grown := must(a.ledger.Next(entry))
	place := must(a.hot.Append(b))
	r.Copies = []api.Place{place}
	if e := a.keys.Apply([]api.Change{ofRecord(r), grown}); e != api.OK {
		a.hot.Free(place)
		try(e)
	}
	a.ledger.Grow(entry)
}

// Get tells an object's bytes.
func (a *Archive) Get(id string) (b []byte, e api.Errno) {
	e = a.call(func() { b = a.bytesOf(a.live(id)) })
	return b, e
}

// Stat tells what is known of an object.
func (a *Archive) Stat(id string) (s api.Stat, e api.Errno) {
	e = a.call(func() {
		r := a.find(id)
		s = api.Stat{Length: r.Length, Root: r.Root, Index: r.Index, Expiry: r.Expiry, Hold: r.Hold, Gone: r.Gone}
	})
	return s, e
}

// Lock keeps an object from being deleted until a time.
func (a *Archive) Lock(id string, until int) api.Errno {
	return a.call(func() {
		need(record.Name(id), api.ErrID)
		need(until >= 0 && until <= api.MaxClock, api.ErrArg)
		r := a.find(id)
		a.turn(r, must(retain.Lock(r, until)))
	})
}

// Hold keeps an object from being deleted, or does so no more.
func (a *Archive) Hold(id string, on bool) api.Errno {
	return a.call(func() {
		r := a.find(id)
		a.turn(r, must(retain.Hold(r, on)))
	})
}

// Delete deletes an object.
func (a *Archive) Delete(id string) api.Errno {
	return a.call(func() {
		r := a.find(id)
		a.turn(r, must(retain.Delete(r, a.p.Now())))
		for _, x := range r.Copies {
			if isHot(x) {
				a.hot.Free(x)
			}
		}
	})
}

// IDs tells all that are there and not deleted.
func (a *Archive) IDs() (ids []string, e api.Errno) {
	e = a.call(func() { ids = idsOf(a.records()) })
	return ids, e
}

// Due tells all that were locked and may be deleted now, by when their locks ended.
func (a *Archive) Due() (ids []string, e api.Errno) {
	e = a.call(func() {
		now := a.p.Now()
		ids = retain.Due(a.lockedUpTo(now), now)
	})
	return ids, e
}

// Copies is how many right copies an object has on tape.
func (a *Archive) Copies(id string) (n int, e api.Errno) {
	e = a.call(func() { n = a.scrubber.Right(a.live(id)) })
	return n, e
}

// bytesOf are those of an object that is not deleted, from the first right copy.
func (a *Archive) bytesOf(r api.Record) []byte {
	for _, x := range r.Copies {
		if x.Bad {
			continue
		}
		if b, ok := a.read(r.ID, x); ok && len(b) == r.Length && chunk.Root(b) == r.Root {
			return b
		}
	}
	panic(thrown{api.ErrCorrupt})
}

// read tells the bytes that an object has at a place; false, if there are none of it.
// (Reading takes no step: so the power, which is on, does not go off.)
func (a *Archive) read(id string, x api.Place) ([]byte, bool) {
	if isHot(x) {
		b, e := a.hot.Read(x)
		return b, e == api.OK
	}
	k := x.Dev - api.DevTape
	if k < 0 || k >= len(a.tapes) {
		return nil, false
	}
	name, b, e := a.tapes[k].Read(x)
	return b, e == api.OK && name == id
}

func isHot(x api.Place) bool { return x.Dev == api.DevHot }
