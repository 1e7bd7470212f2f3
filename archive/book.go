package archive

import (
	"muniment/api"
	"muniment/ledger"
)

// book is the archive's ledger, of which nothing can be asked while the power is off.
type book struct {
	power
	ledger *ledger.Ledger
}

// Head is how many entries there are, and the root of their tree.
func (k *book) Head() (h api.Head, e api.Errno) {
	e = k.call(func() { h = must(k.ledger.Head(k.ledger.Size())) })
	return h, e
}

// Entry is the entry with a number.
func (k *book) Entry(i int) (entry []byte, e api.Errno) {
	e = k.call(func() { entry = must(k.ledger.Entry(i)) })
	return entry, e
}

// Consistency proves, to whoever has the heads of both sizes, that the ledger of n entries
// begins with that of m.
func (k *book) Consistency(m, n int) (proof []api.Hash, e api.Errno) {
	e = k.call(func() { proof = must(k.ledger.Consistency(m, n)) })
	return proof, e
}

// Inclusion proves, to whoever has the head of this size, that an object's entry is there,
// and tells its number.
func (a *Archive) Inclusion(id string, size int) (i int, proof []api.Hash, e api.Errno) {
	e = a.call(func() {
		r := a.find(id)
		proof = must(a.ledger.Inclusion(r.Index, size))
		i = r.Index
	})
	return i, proof, e
}
