// Package crc is layer 1: the CRC-32 of IEEE 802.3.
package crc

// halves holds, for each value of a register's lowest four bits, what four
// shifts by the polynomial edb88320 leave of them. A byte is two steps of it: a
// table of whole bytes would be sixteen times as long.
var halves = [16]uint32{
	0x00000000, 0x1db71064, 0x3b6e20c8, 0x26d930ac,
	0x76dc4190, 0x6b6b51f4, 0x4db26158, 0x5005713c,
	0xedb88320, 0xf00f9344, 0xd6d6a3e8, 0xcb61b38c,
	0x9b64c2b0, 0x86d3d2d4, 0xa00ae278, 0xbdbdf21c,
}

// Sum is the check sum of b.
func Sum(b []byte) uint32 { return More(0, b) }

// More is the check sum of b behind bytes whose own check sum is sum.
func More(sum uint32, b []byte) uint32 {
	// A sum is the register with its bits turned, so turning them again goes on
	// where the bytes ahead left off; the sum 0 gives the beginning, ffffffff.
	r := ^sum
	for _, c := range b {
		r ^= uint32(c)
		r = r>>4 ^ halves[r&15]
		r = r>>4 ^ halves[r&15]
	}
	return ^r
}
