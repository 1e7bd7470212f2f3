package migrate

import (
	"slices"

	"muniment/api"
	"muniment/chunk"
	"muniment/record"
)

// object is one whose record waits, with the bytes of its hot copy.
type object struct {
	api.Record
	bytes []byte
}

// keyOf is the key of an id's record in the catalogue.
func keyOf(id string) []byte { return []byte("o" + id) }

// waiting is the object of a key and its value; false, if these are no record's, or it
// does not wait.
func (g *Engine) waiting(p api.Pair) (object, bool, api.Errno) {
	r, refused := record.Decode(p.Value)
	if refused != api.OK || string(p.Key) != string(keyOf(r.ID)) || r.Gone {
		return object{}, false, api.OK
	}
	for _, x := range r.Copies {
		if !isHot(x) || x.Bad {
			continue
		}
		b, e := g.h.Read(x)
		switch {
		case e == api.ErrPower:
			return object{}, false, e
		case e == api.OK && isOf(r, b):
			return object{r, b}, true, api.OK
		}
	}
	return object{}, false, api.OK
}

// turned is the object's record with new copies in place of those on the hot disk. If
// these are more than may be, Bad ones are forgotten.
func (o object) turned(l []written) api.Record {
	r := o.Record
	r.Copies = slices.DeleteFunc(slices.Clone(o.Copies), isHot)
	for _, w := range l {
		r.Copies = append(r.Copies, w.place)
	}
	for len(r.Copies) > api.MaxCopies {
		i := slices.IndexFunc(r.Copies, isBad)
		if i < 0 {
			break
		}
		r.Copies = slices.Delete(r.Copies, i, i+1)
	}
	return r
}

// isOf tells whether bytes are those that a record is of.
func isOf(r api.Record, b []byte) bool {
	return len(b) == r.Length && chunk.Root(b) == r.Root
}

func isHot(x api.Place) bool { return x.Dev == api.DevHot }

func isBad(x api.Place) bool { return x.Bad }
