package engine

import (
	"bytes"

	"quota/api"
	"quota/apply"
	"quota/log"
	"quota/master"
	"quota/page"
	"quota/pool"
	"quota/sectors"
)

// twinAt: the twin's first sector, behind the master's two.
const twinAt = 2

// storage: what lies on the disk, and what of it is in memory.
type storage struct {
	disk *sectors.Device
	log  *log.Log
	pool *pool.Pool
}

// reach: of a disk that has a master of this shape, and nothing left in its twin.
func reach(d *sectors.Device, s api.Shape) storage {
	first, fault := master.Log(s)
	must(fault)
	l, err := log.Open(d, first, s.Log)
	must(err)
	p, fault := pool.New(d, l, s)
	must(fault)
	return storage{disk: d, log: l, pool: p}
}

// wipe: the master's slots go first, so that no crash leaves a master to a store that is half gone.
func wipe(d *sectors.Device) {
	zeros := make([]byte, api.SectorSize)
	must(d.Write(0, zeros))
	must(d.Write(1, zeros))
	must(d.Sync())
	wiped := false
	for i := twinAt; i < d.Sectors(); i++ {
		b, fault := d.Read(i)
		must(fault)
		if !bytes.Equal(b, zeros) {
			must(d.Write(i, zeros))
			wiped = true
		}
	}
	if wiped {
		must(d.Sync())
	}
}

// records: those of the log, from one on.
func (s *storage) records(from int) []api.Record {
	var out []api.Record
	for lsn := from; lsn <= s.log.Last(); lsn++ {
		r, fault := s.log.Get(lsn)
		must(fault)
		out = append(out, r)
	}
	return out
}

func (s *storage) force(lsn int) { must(s.log.Force(lsn)) }

func (s *storage) page(n int) page.Page {
	x, err := s.pool.Get(n)
	must(err)
	return x
}

// toPages: what the record does to its pages, one behind the other.
func (s *storage) toPages(r api.Record) {
	for _, n := range apply.Pages(r) {
		x, did, fault := apply.Do(s.page(n), r)
		must(fault)
		if did {
			must(s.pool.Put(x))
		}
	}
}

// counterAt: as its page has it. On a disk that others have written to the slot may be another's.
func (s *storage) counterAt(where api.Slot, id int) api.Counter {
	x := s.page(where.Page)
	if where.Index >= len(x.Counters) || x.Counters[where.Index].ID != id {
		giveUp(api.ErrSlot)
	}
	return x.Counters[where.Index]
}

// sumAt: see counterAt.
func (s *storage) sumAt(sums api.Slot, group int) int64 {
	x := s.page(sums.Page)
	if sums.Index >= len(x.Groups) || x.Groups[sums.Index].ID != group {
		giveUp(api.ErrSlot)
	}
	return x.Groups[sums.Index].Sum
}
