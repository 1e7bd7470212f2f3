package catalog

import (
	"bytes"
	"slices"

	"muniment/api"
)

// overhead is what a change counts beside its key and value.
const overhead = 3

// isLong tells whether there are more changes, or more bytes in them, than may be.
func isLong(l []api.Change) bool {
	size := 0
	for _, x := range l {
		size += overhead + len(x.Key) + len(x.Value)
	}
	return len(l) > api.MaxRecords || size > api.MaxPayload
}

// isWrong tells whether a change may not be.
func isWrong(x api.Change) bool {
	isKey := len(x.Key) >= 1 && len(x.Key) <= api.MaxKey
	return !isKey || len(x.Value) > api.MaxValue || x.Gone && len(x.Value) > 0
}

// change is what becomes of a key.
type change struct {
	value []byte
	gone  bool
}

// layer has changes by their keys: the last one of each.
type layer map[string]change

// layerOf brings together what a journal has; false, if that is no catalogue's.
func layerOf(txs [][][]byte) (layer, bool) {
	y := layer{}
	for _, tx := range txs {
		for _, record := range tx {
			x, ok := changeOf(record)
			if !ok {
				return nil, false
			}
			y.add(x)
		}
	}
	return y, true
}

func (y layer) add(x api.Change) {
	y[string(x.Key)] = change{value: bytes.Clone(x.Value), gone: x.Gone}
}

func (y layer) has(key string) bool {
	_, ok := y[key]
	return ok
}

// inOrder are the keys in the order in which they are brought into a tree: those that
// are gone first, so that there are never more keys on the way than at one of its ends.
func (y layer) inOrder() []string {
	var gone, others []string
	for key, x := range y {
		if x.gone {
			gone = append(gone, key)
		} else {
			others = append(others, key)
		}
	}
	slices.Sort(gone)
	slices.Sort(others)
	return slices.Concat(gone, others)
}

// A change in the journal: whether the key is gone (1), or has a value (0); the key's
// length; the key; the value. That is no more than a change counts.
const (
	goneAt   = 0
	lengthAt = 1
	keyAt    = 2
)

// transaction is changes as the journal has them.
func transaction(l []api.Change) [][]byte {
	var tx [][]byte
	for _, x := range l {
		tx = append(tx, recordOf(x))
	}
	return tx
}

func recordOf(x api.Change) []byte {
	b := make([]byte, keyAt)
	if x.Gone {
		b[goneAt] = 1
	}
	b[lengthAt] = byte(len(x.Key))
	return slices.Concat(b, x.Key, x.Value)
}

// changeOf is the change of a record; false, if it is none's.
func changeOf(b []byte) (api.Change, bool) {
	if len(b) < keyAt || b[goneAt] > 1 || int(b[lengthAt]) > len(b)-keyAt {
		return api.Change{}, false
	}
	valueAt := keyAt + int(b[lengthAt])
	x := api.Change{Key: b[keyAt:valueAt], Value: b[valueAt:], Gone: b[goneAt] == 1}
	return x, !isWrong(x)
}
