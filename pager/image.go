package pager

import (
	"muniment/api"
	"muniment/crc"
	"muniment/plant"
)

// The places in an image. Between the bytes and the sum are noughts.
const (
	lengthAt   = 0
	bytesAt    = lengthAt + 2
	imageSize  = api.PageSectors * api.SectorSize
	imageSumAt = imageSize - 4
)

// image is what the sectors of a page have.
type image [imageSize]byte

// imageOf is that of a page with these bytes, PageBytes at the most.
func imageOf(b []byte) image {
	var x image
	layNumber(x[lengthAt:bytesAt], uint64(len(b)))
	copy(x[bytesAt:], b)
	layNumber(x[imageSumAt:], uint64(crc.Sum(x[:imageSumAt])))
	return x
}

// bytes are those that were put; false, if the image is no page's.
func (x image) bytes() ([]byte, bool) {
	length := int(number(x[lengthAt:bytesAt]))
	if length > api.PageBytes {
		return nil, false
	}
	b := make([]byte, length)
	copy(b, x[bytesAt:])
	return b, imageOf(b) == x
}

// firstSector is where a page begins.
func firstSector(page int) int { return headCount + page*api.PageSectors }

func readImage(p *plant.Plant, dev, page int) (image, api.Errno) {
	var x image
	for i := range api.PageSectors {
		s, e := readSector(p, dev, firstSector(page)+i)
		if e != api.OK {
			return image{}, e
		}
		copy(x[i*api.SectorSize:], s[:])
	}
	return x, api.OK
}

// writeImage does not flush: Commit does.
func writeImage(p *plant.Plant, dev, page int, x image) api.Errno {
	for i := range api.PageSectors {
		var s sector
		copy(s[:], x[i*api.SectorSize:])
		if e := writeSector(p, dev, firstSector(page)+i, s); e != api.OK {
			return e
		}
	}
	return api.OK
}
