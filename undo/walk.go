package undo

import (
	"quota/api"
	"quota/apply"
	"quota/log"
	"quota/pool"
	"quota/txns"
)

// stop: what gives a call up, from wherever it is met.
type stop struct{ e api.Errno }

func giveUp(e api.Errno) { panic(stop{e: e}) }

// must: the first error of a layer below ends the call.
func must(e api.Errno) {
	if e != api.OK {
		giveUp(e)
	}
}

// asFault lets go on what no call of this package has thrown: that would be a mistake, not an answer.
func asFault(met any) error {
	s, ok := met.(stop)
	if !ok {
		panic(met)
	}
	return &api.Fault{Call: "Run", Err: s.e}
}

// walk: one transaction is taken back.
type walk struct {
	log   *log.Log
	pool  *pool.Pool
	table *txns.Table
	tx    int
}

// transaction: as it stands by now.
func (w walk) transaction() api.Live {
	x, e := w.table.Get(w.tx)
	must(e)
	return x
}

// left: all of the log is read, for the table doesn't tell where the transaction's first record stands.
func (w walk) left() []api.Record {
	var all []api.Record
	for lsn := 1; lsn <= w.log.Last(); lsn++ {
		r, e := w.log.Get(lsn)
		must(e)
		all = append(all, r)
	}
	out, e := Left(all, w.tx)
	must(e)
	return out
}

// write: the record, as the log has it. The table is told at once: whatever fails behind it, the log and the table tell the same.
func (w walk) write(r api.Record) api.Record {
	r.Prev = w.transaction().Last
	lsn, e := w.log.Append(r)
	must(e)
	r.LSN = lsn
	must(w.table.Note(r))
	return r
}

// takeBack: one counter's step, first in the log and then on its pages.
func (w walk) takeBack(r api.Record) {
	r = w.write(r)
	eachPage(r, func(n int) {
		old, err := w.pool.Get(n)
		must(api.Code(err))
		x, did, e := apply.Do(old, r)
		must(e)
		if did {
			must(api.Code(w.pool.Put(x)))
		}
	})
}

func eachPage(r api.Record, do func(n int)) {
	for _, n := range apply.Pages(r) {
		do(n)
	}
}
