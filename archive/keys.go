package archive

import (
	"bytes"

	"muniment/api"
	"muniment/record"
)

// What the catalogue's keys begin with. (Those of the ledger's entries are the ledger's.)
const (
	configPrefix = 'c'
	recordPrefix = 'o'
	lockPrefix   = 'x'
)

const timeSize = 6 // bytes of a time in a lock's key

func configKey() []byte { return []byte{configPrefix} }

func recordKey(id string) []byte { return append([]byte{recordPrefix}, id...) }

// lockKey is where a lock stands among all others: by when it ends, then by its object.
func lockKey(until int, id string) []byte {
	key := []byte{lockPrefix}
	for i := timeSize - 1; i >= 0; i-- {
		key = append(key, byte(until>>(8*i)))
	}
	return append(key, id...)
}

// lockOf is the key of an object's lock: none, if it was never locked, or is deleted.
func lockOf(r api.Record) []byte {
	if r.Gone || r.Expiry == 0 {
		return nil
	}
	return lockKey(r.Expiry, r.ID)
}

// ofRecord is the change that makes the catalogue have a record.
func ofRecord(r api.Record) api.Change {
	return api.Change{Key: recordKey(r.ID), Value: must(record.Encode(r))}
}

// turn makes the catalogue have a record in place of what it was, with its lock.
func (a *Archive) turn(was, r api.Record) {
	var l []api.Change
	if old, now := lockOf(was), lockOf(r); !bytes.Equal(old, now) {
		// The old one goes first, so that there are never more keys than at the end.
		if old != nil {
			l = append(l, api.Change{Key: old, Gone: true})
		}
		if now != nil {
			l = append(l, api.Change{Key: now})
		}
	}
	try(a.keys.Apply(append(l, ofRecord(r))))
}

// lookUp is an id's record; false, if the object is not there.
func (a *Archive) lookUp(id string) (api.Record, bool) {
	key := recordKey(id)
	value, ok, e := a.keys.Get(key)
	try(e)
	if !ok {
		return api.Record{}, false
	}
	return recordOf(api.Pair{Key: key, Value: value}), true
}

// find is the record of an object that is there.
func (a *Archive) find(id string) api.Record {
	need(record.Name(id), api.ErrID)
	r, ok := a.lookUp(id)
	need(ok, api.ErrNone)
	return r
}

// live is the record of an object that is there, and not deleted.
func (a *Archive) live(id string) api.Record {
	r := a.find(id)
	need(!r.Gone, api.ErrGone)
	return r
}

// records are all, by rising ids.
func (a *Archive) records() []api.Record {
	var l []api.Record
	for _, p := range must(a.keys.List([]byte{recordPrefix})) {
		l = append(l, recordOf(p))
	}
	return l
}

// lockedUpTo are the records of those whose locks have ended at a time.
func (a *Archive) lockedUpTo(now int) []api.Record {
	var l []api.Record
	later := lockKey(now+1, "")
	for _, p := range must(a.keys.List([]byte{lockPrefix})) {
		if bytes.Compare(p.Key, later) >= 0 {
			break
		}
		need(len(p.Key) > len(later), api.ErrCorrupt)
		r, ok := a.lookUp(string(p.Key[len(later):]))
		need(ok, api.ErrCorrupt)
		l = append(l, r)
	}
	return l
}

// recordOf is the record of a key and its value.
func recordOf(p api.Pair) api.Record {
	r, e := record.Decode(p.Value)
	need(e == api.OK && bytes.Equal(p.Key, recordKey(r.ID)), api.ErrCorrupt)
	return r
}

// idsOf are the ids of those that are not deleted.
func idsOf(l []api.Record) []string {
	var ids []string
	for _, r := range l {
		if !r.Gone {
			ids = append(ids, r.ID)
		}
	}
	return ids
}
