package wal

import (
	"muniment/api"
	"muniment/frame"
)

// long tells whether a transaction has more records, or more bytes, than may be.
func long(tx [][]byte) bool {
	return len(tx) > api.MaxRecords || size(tx)-lengthSize*len(tx) > api.MaxPayload
}

// size is how many bytes a transaction has, with its records' lengths.
func size(tx [][]byte) int {
	n := 0
	for _, record := range tx {
		n += lengthSize + len(record)
	}
	return n
}

// body is a transaction as bytes: each record behind its length.
func body(tx [][]byte) []byte {
	var b []byte
	for _, record := range tx {
		b = append(frame.Number(b, uint64(len(record)), lengthSize), record...)
	}
	return b
}

// records is the transaction of these bytes; false, if they are none's.
func records(b []byte) ([][]byte, bool) {
	var tx [][]byte
	for len(b) > 0 {
		length, rest, e := frame.Take(b, lengthSize)
		n := int(length)
		if e != api.OK || n > len(rest) {
			return nil, false
		}
		tx = append(tx, told(rest[:n:n]))
		b = rest[n:]
	}
	return tx, !long(tx)
}

// told is a piece of another's memory as bytes of their own.
func told(piece []byte) []byte {
	c := make([]byte, len(piece))
	copy(c, piece)
	return c
}
