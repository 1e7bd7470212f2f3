package pager

import (
	"muniment/api"
	"muniment/crc"
	"muniment/plant"
)

// headCount is how many heads a disk has: its first sectors.
const headCount = 2

// The places in a head's sector. The mark is there because sectors of other layers,
// too, may end in a sum of all bytes ahead of it.
const (
	mark     = "PG"
	rootAt   = len(mark)
	numberAt = rootAt + 2
	usedAt   = numberAt + 8
	sumAt    = usedAt + setSize
)

const setSize = api.MaxPages / 8

// sector is what a sector of the disk has.
type sector [api.SectorSize]byte

// set is some of the pages: a bit for each.
type set [setSize]byte

func (s set) has(page int) bool {
	return page >= 0 && page < api.MaxPages && s[page/8]&bit(page) != 0
}

func (s set) with(page int) set {
	s[page/8] |= bit(page)
	return s
}

func (s set) without(page int) set {
	s[page/8] &^= bit(page)
	return s
}

func bit(page int) byte { return 1 << (page % 8) }

// head is a commit.
type head struct {
	number uint64 // goes round: it is held against its neighbours alone
	root   int
	used   set
}

// slot is the place of a commit's head: that of the commit ahead of it is the other
// one.
func (h head) slot() int { return int(h.number % headCount) }

func (h head) sector() sector {
	var s sector
	copy(s[:rootAt], mark)
	layNumber(s[rootAt:numberAt], uint64(h.root-none))
	layNumber(s[numberAt:usedAt], h.number)
	copy(s[usedAt:sumAt], h.used[:])
	layNumber(s[sumAt:], uint64(crc.Sum(s[:sumAt])))
	return s
}

// headOf is the head that a sector has; false, if it is none's.
func headOf(s sector) (head, bool) {
	h := head{number: number(s[numberAt:usedAt]), root: int(number(s[rootAt:numberAt])) + none}
	copy(h.used[:], s[usedAt:sumAt])
	return h, h.sector() == s
}

// holds tells whether a commit may be one of a disk of so many pages.
func (h head) holds(pages int) bool {
	for page := pages; page < api.MaxPages; page++ {
		if h.used.has(page) {
			return false
		}
	}
	return h.root == none || h.used.has(h.root)
}

// readLast tells the last commit; ErrCorrupt, if there is no pager.
func readLast(p *plant.Plant, dev int) (head, api.Errno) {
	var found [headCount]head
	for slot := range found {
		h, e := readHead(p, dev, slot)
		if e != api.OK {
			return head{}, e
		}
		found[slot] = h
	}
	switch {
	case found[0].number == found[1].number+1:
		return found[0], api.OK
	case found[1].number == found[0].number+1:
		return found[1], api.OK
	}
	return head{}, api.ErrCorrupt
}

func readHead(p *plant.Plant, dev, slot int) (head, api.Errno) {
	s, e := readSector(p, dev, slot)
	if e != api.OK {
		return head{}, e
	}
	h, ok := headOf(s)
	if !ok || h.slot() != slot || !h.holds(pagesOf(p, dev)) {
		return head{}, api.ErrCorrupt
	}
	return h, api.OK
}

// layHead lays a commit down over the one ahead of the last, for good.
func layHead(p *plant.Plant, dev int, h head) api.Errno {
	if e := writeSector(p, dev, h.slot(), h.sector()); e != api.OK {
		return e
	}
	return p.Flush(dev)
}

// layFirst makes a pager where there is none. One of the heads that are there may be
// a right one, which would be the last commit beside a new one: so both are wiped
// ahead of it.
func layFirst(p *plant.Plant, dev int) api.Errno {
	if e := layBoth(p, dev, [headCount]sector{}); e != api.OK {
		return e
	}
	zero, one := head{number: 0, root: none}, head{number: 1, root: none}
	return layBoth(p, dev, [headCount]sector{zero.sector(), one.sector()})
}

// layBoth lays the sectors of both heads down, for good.
func layBoth(p *plant.Plant, dev int, both [headCount]sector) api.Errno {
	for slot, s := range both {
		if e := writeSector(p, dev, slot, s); e != api.OK {
			return e
		}
	}
	return p.Flush(dev)
}

func readSector(p *plant.Plant, dev, place int) (sector, api.Errno) {
	b, e := p.Read(dev, place)
	if e != api.OK {
		return sector{}, e
	}
	var s sector
	copy(s[:], b)
	return s, api.OK
}

func writeSector(p *plant.Plant, dev, place int, s sector) api.Errno {
	return p.Write(dev, place, s[:])
}

// layNumber fills b with the lowest bytes of n, the highest first.
func layNumber(b []byte, n uint64) {
	for i := range b {
		b[len(b)-1-i] = byte(n >> (8 * i))
	}
}

// number is that of these bytes, the highest first.
func number(b []byte) uint64 {
	n := uint64(0)
	for _, c := range b {
		n = n<<8 | uint64(c)
	}
	return n
}
