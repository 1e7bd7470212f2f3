package plant

import (
	"maps"
	"slices"

	"muniment/api"
)

// tornSize is how many bytes of a torn block are kept.
const tornSize = api.SectorSize / 2

// sector is what a disk's sector has, or a tape's block.
type sector [api.SectorSize]byte

// write is one that waits.
type write struct {
	step  int // the number of its step: it gives the writes of all devices one order
	place int
	bytes sector
}

// devWrite is a write with its device's number.
type devWrite struct {
	dev int
	write
}

// device is a disk or a tape.
type device struct {
	tape    bool
	size    int            // how many sectors it has, or how many blocks it may have
	flushed map[int]sector // by place: all blocks; of the sectors those that ever were flushed, or rotted
	waiting []write        // in their order
	latest  map[int]int    // by place: which of waiting was written there last
}

func newDevice(size int, tape bool) *device {
	return &device{tape: tape, size: size, flushed: map[int]sector{}, latest: map[int]int{}}
}

// length is how many sectors, or blocks, may be read.
func (d *device) length() int {
	if !d.tape {
		return d.size
	}
	// No two writes of a tape are of one place.
	return len(d.flushed) + len(d.waiting)
}

// lengthFlushed is how many sectors, or blocks, are there for good.
func (d *device) lengthFlushed() int {
	if !d.tape {
		return d.size
	}
	return len(d.flushed)
}

func (d *device) read(place int) sector {
	if i, ok := d.latest[place]; ok {
		return d.waiting[i].bytes
	}
	return d.flushed[place] // noughts, where nothing was flushed
}

// wait takes a write that step did.
func (d *device) wait(step, place int, b []byte) {
	w := write{step: step, place: place}
	copy(w.bytes[:], b)
	d.latest[place] = len(d.waiting)
	d.waiting = append(d.waiting, w)
}

func (d *device) waitNoMore() {
	d.waiting, d.latest = nil, map[int]int{}
}

// settle does with a write that waited what k says. It is false, if nothing
// behind it is kept.
func (d *device) settle(w write, k int) bool {
	switch {
	case k&1 == 1:
		d.flushed[w.place] = w.bytes
		return true
	case d.tape && k&3 == 2:
		var torn sector
		copy(torn[:tornSize], w.bytes[:])
		d.flushed[w.place] = torn
	}
	return !d.tape
}

func (d *device) clone() *device {
	c := *d
	c.flushed, c.latest = maps.Clone(d.flushed), maps.Clone(d.latest)
	c.waiting = slices.Clone(d.waiting)
	return &c
}
