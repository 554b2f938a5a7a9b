package master

import (
	"quota/api"
	"quota/field"
	"quota/sectors"
)

const (
	mark      = 0x4d
	lastStamp = 1 << 62
	last      = api.SectorSize - 1
)

// Where a slot's numbers stand, and in how many bytes.
const (
	stampAt, stampSize   = 1, 8
	pagesAt, pagesSize   = 9, 1
	logAt, logSize       = 10, 2
	framesAt, framesSize = 12, 1
	pointAt, pointSize   = 13, 4
)

// sector: as an array, so that two are compared as a whole.
type sector [api.SectorSize]byte

// slot: what a right one says. The zero slot is none, since stamps begin with 1.
type slot struct {
	stamp uint64
	shape api.Shape
	point int
}

// home: the sector in which the slot stands; stamps one behind the other stand in turn.
func (s slot) home() int { return int(s.stamp % slots) }

// sector: the bytes that a slot should have.
func (s slot) sector() sector {
	var b sector
	b[0] = mark
	b.set(stampAt, stampSize, s.stamp)
	b.set(pagesAt, pagesSize, uint64(s.shape.Pages))
	b.set(logAt, logSize, uint64(s.shape.Log))
	b.set(framesAt, framesSize, uint64(s.shape.Frames))
	b.set(pointAt, pointSize, uint64(s.point))
	b[last] = b[stampAt]
	return b
}

// apart: the slot that these bytes would be.
func apart(b sector) slot {
	return slot{
		stamp: b.number(stampAt, stampSize),
		shape: api.Shape{
			Pages:  int(b.number(pagesAt, pagesSize)),
			Log:    int(b.number(logAt, logSize)),
			Frames: int(b.number(framesAt, framesSize)),
		},
		point: int(b.number(pointAt, pointSize)),
	}
}

// set cannot be refused: the places lie within a sector, and every number in its bounds fits.
func (b *sector) set(at, size int, n uint64) { field.Put(b[:], at, size, n) }

func (b *sector) number(at, size int) uint64 {
	n, _ := field.Get(b[:], at, size)
	return n
}

// mayStand: are the numbers in their bounds, in sector i of a disk of n sectors?
func (s slot) mayStand(i, n int) bool {
	return 1 <= s.stamp && s.stamp <= lastStamp && s.home() == i && fits(s.shape, n) && s.point <= api.MaxLSN
}

// read: the right slot in sector i, or the zero slot.
func read(d *sectors.Device, i int) slot {
	content, e := d.Read(i)
	if e != api.OK {
		return slot{} // a disk of one sector has no second slot
	}
	b := sector(content)
	s := apart(b)
	if !s.mayStand(i, d.Sectors()) || s.sector() != b {
		return slot{}
	}
	return s
}

// lay: the slot stands in its sector, durably.
func lay(d *sectors.Device, s slot) api.Errno { return put(d, s.home(), s.sector()) }

func put(d *sectors.Device, i int, b sector) api.Errno {
	if e := d.Write(i, b[:]); e != api.OK {
		return e
	}
	return d.Sync()
}
