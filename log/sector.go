package log

import (
	"quota/api"
	"quota/record"
)

const (
	mark = 0x6c
	seal = 0xa5
	most = 502 // bytes of a record
)

// Where a sector's parts stand.
const (
	lsnAt   = 1
	sizeAt  = 5
	bytesAt = 7
	sealAt  = api.SectorSize - 1
)

type sector [api.SectorSize]byte

// frame: record s's sector, but for the record's bytes, of which there are so many.
func frame(s, size int) sector {
	var b sector
	b[0] = mark
	lay(b[lsnAt:sizeAt], s)
	lay(b[sizeAt:bytesAt], size)
	b[sealAt] = seal
	return b
}

// filled: record s's sector.
func filled(s int, bytes []byte) sector {
	b := frame(s, len(bytes))
	copy(b[bytesAt:], bytes)
	return b
}

// size: how many bytes the record would have whose sector this is.
func (b *sector) size() int { return int(b[sizeAt]) | int(b[sizeAt+1])<<8 }

// lay: a number in these bytes, the lowest first.
func lay(b []byte, n int) {
	for i := range b {
		b[i] = byte(n >> (8 * i))
	}
}

// apart: record s of these bytes.
func apart(s int, bytes []byte) (api.Record, api.Errno) {
	r, e := record.Decode(bytes)
	if e != api.OK {
		return api.Record{}, e
	}
	r.LSN = s
	if e := record.Check(r); e != api.OK {
		return api.Record{}, e
	}
	return r, api.OK
}
