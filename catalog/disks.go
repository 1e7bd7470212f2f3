package catalog

import (
	"muniment/api"
	"muniment/plant"
)

// The least sizes of both disks, in sectors. Ahead of its pages a pager's disk has two.
const (
	minJournal   = 64
	aheadOfPages = 2
	minPages     = 48
	minDisk      = aheadOfPages + api.PageSectors*minPages
)

// mayHold tells whether there may be a catalogue on these devices.
func mayHold(p *plant.Plant, journal, disk int) bool {
	return journal != disk && sectors(p, journal) >= minJournal && sectors(p, disk) >= minDisk
}

// sectors is how many a disk has: 0, if the device is none.
func sectors(p *plant.Plant, dev int) int {
	disks := p.Shape().Disks
	if dev < 0 || dev >= len(disks) {
		return 0
	}
	return disks[dev]
}

// mostKeys is how many there may be. A tree that is committed takes no more pages than
// it has keys: so with as many there is room to change it, whatever they are.
func mostKeys(p *plant.Plant, disk int) int {
	pages := min((sectors(p, disk)-aheadOfPages)/api.PageSectors, api.MaxPages)
	return pages - treeRoom
}
