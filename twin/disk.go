package twin

import (
	"quota/api"
	"quota/sectors"
)

// How many sectors a twin has, and how many a page.
const (
	twinSectors = 3
	pageSectors = api.PageSize / api.SectorSize
)

// stop: what gives a call up, from wherever it is met.
type stop struct{ e api.Errno }

func giveUp(e api.Errno) { panic(stop{e: e}) }

// must: a disk that has given up ends the call.
func must(e api.Errno) {
	if e != api.OK {
		giveUp(e)
	}
}

// asFault lets go on what no call of this package has thrown: that would be a mistake, not an answer.
func asFault(call string, met any) error {
	s, ok := met.(stop)
	if !ok {
		panic(met)
	}
	return &api.Fault{Call: call, Err: s.e}
}

// mustRun: what is asked of a disk ahead of all else.
func mustRun(d *sectors.Device) {
	if d == nil {
		giveUp(api.ErrHandle)
	}
	if d.Down() {
		giveUp(api.ErrDown)
	}
}

// has: are the count sectors from first on the disk's? (No sum of first and count, which could wrap.)
func has(d *sectors.Device, first, count int) bool {
	return first >= 0 && first <= d.Sectors()-count
}

func mayBeTwin(d *sectors.Device, at int) bool { return has(d, at, twinSectors) }

func mayBePage(d *sectors.Device, home int) bool { return has(d, home, pageSectors) }

// mayBeHome: beside a twin that may be.
func mayBeHome(d *sectors.Device, at, home int) bool {
	return mayBePage(d, home) && (home+pageSectors <= at || home >= at+twinSectors)
}

func read(d *sectors.Device, i int) []byte {
	b, e := d.Read(i)
	must(e)
	return b
}

// readPage copies both halves into one list of just their length, so that it has no spare room.
func readPage(d *sectors.Device, first int) []byte {
	b := make([]byte, api.PageSize)
	for i := range pageSectors {
		copy(b[api.SectorSize*i:], read(d, first+i))
	}
	return b
}

// layPage: durable when it comes back, as each step must be ahead of the next one.
func layPage(d *sectors.Device, first int, b []byte) {
	for i := range pageSectors {
		must(d.Write(first+i, b[api.SectorSize*i:api.SectorSize*(i+1)]))
	}
	must(d.Sync())
}

func layMarker(d *sectors.Device, at int, m marker) {
	must(d.Write(at, m[:]))
	must(d.Sync())
}
