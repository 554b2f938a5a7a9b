package redo

import (
	"iter"

	"quota/api"
	"quota/apply"
	"quota/log"
	"quota/pool"
)

// moment: a record of the log, or the error that its place answered. The number stands beside it, for there is none in a record that could not be had.
type moment struct {
	lsn    int
	record api.Record
	e      api.Errno
}

// history: the log's records from one on, in their order.
func history(l *log.Log, from int) iter.Seq[moment] {
	return func(yield func(moment) bool) {
		for lsn := from; lsn <= l.Last(); lsn++ {
			r, e := l.Get(lsn)
			if !yield(moment{lsn, r, e}) {
				return
			}
		}
	}
}

// again: the record is done on those of its pages that are older; how many they were.
func again(p *pool.Pool, m moment) (int, api.Errno) {
	if m.e != api.OK {
		return 0, m.e
	}
	done := 0
	for _, n := range apply.Pages(m.record) {
		did, e := onPage(p, n, m.record)
		if e != api.OK {
			return 0, e
		}
		if did {
			done++
		}
	}
	return done, api.OK
}

// onPage: whether page n was older than the record.
func onPage(p *pool.Pool, n int, r api.Record) (bool, api.Errno) {
	old, err := p.Get(n)
	if err != nil {
		return false, api.Code(err)
	}
	x, did, e := apply.Do(old, r)
	if e != api.OK || !did {
		return false, e
	}
	return true, api.Code(p.Put(x))
}
