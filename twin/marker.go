package twin

import "quota/api"

// marker: a sector's bytes. Of a torn write the last byte is the old one, so that it alone says whether the marker stands.
type marker [api.SectorSize]byte

const (
	numberSize = 4
	last       = api.SectorSize - 1

	stands = 0xa5
	gone   = 0x00
)

func markerOf(home int, state byte) marker {
	var m marker
	for i := range numberSize {
		m[i] = byte(home >> (8 * i))
	}
	m[last] = state
	return m
}

// home: the first sector of the home that it names, which may be none.
func (m marker) home() int {
	n := 0
	for i := range numberSize {
		n |= int(m[i]) << (8 * i)
	}
	return n
}
