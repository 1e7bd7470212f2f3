package hotlog

import (
	"math/bits"

	"muniment/api"
)

// segment has a bit for each of its sectors that is free: the lowest is the first one's.
type segment uint16

// allFree are n segments of which no sector is in use.
func allFree(n int) []segment {
	free := make([]segment, n)
	for s := range free {
		free[s] = row(0, api.SegSectors)
	}
	return free
}

// split tells in which segment a sector of the disk is, and which one of it.
func split(at int) (s, first int) { return at / api.SegSectors, at % api.SegSectors }

// row has the bits of n sectors side by side.
func row(first, n int) segment { return segment(1<<n-1) << first }

func (s segment) has(sectors segment) bool { return s&sectors == sectors }

// find tells where the first n free sectors side by side begin. With each move a bit
// stays only where the next sector is free, too; none comes in from behind the segment's
// end.
func (s segment) find(n int) (first int, ok bool) {
	for range n - 1 {
		s &= s >> 1
	}
	if s == 0 {
		return 0, false
	}
	return bits.TrailingZeros16(uint16(s)), true
}
