package engine

import (
	"quota/api"
	"quota/master"
	"quota/points"
	"quota/undo"
)

// chain: a record goes to the log, and the table is told of it at once. (A transaction that is only beginning has no record ahead.)
func (e *Engine) chain(r api.Record) api.Record {
	x, _ := e.table.Get(r.Tx)
	r.Prev = x.Last
	lsn, fault := e.log.Append(r)
	must(fault)
	r.LSN = lsn
	must(e.table.Note(r))
	return r
}

// write: a record of an open engine, which all books are told of.
func (e *Engine) write(r api.Record) api.Record {
	r = e.chain(r)
	e.enter(r)
	return r
}

// mustFit: a record now, and so many promised ones more.
func (e *Engine) mustFit(more int) { must(e.room.May(e.log.Free(), 1, more)) }

func (e *Engine) begin() int {
	e.mayBegin()
	e.mustFit(2) // its commit or abort, its end
	return e.write(api.Record{Kind: api.Begin, Tx: e.table.Next()}).Tx
}

func (e *Engine) create(c api.Counter) {
	r := e.mayCreate(c)
	e.mustFit(0)
	r = e.write(r)
	e.force(r.LSN)
	e.toPages(r)
}

func (e *Engine) add(tx, counter int, delta int64) {
	r, more := e.mayAdd(tx, counter, delta)
	e.mustFit(more)
	e.toPages(e.write(r))
}

func (e *Engine) commit(tx int) {
	e.mustLive(tx)
	r := e.write(api.Record{Kind: api.Commit, Tx: tx})
	e.force(r.LSN)
	e.ledger.Settle(tx)
	e.write(api.Record{Kind: api.End, Tx: tx})
}

// abort: what is written is undo's business; the room has promised it, and is told of it.
func (e *Engine) abort(tx int) {
	last := e.log.Last()
	_, err := undo.Run(e.log, e.pool, e.table, tx)
	must(err)
	for _, r := range e.records(last + 1) {
		e.enter(r)
	}
	e.ledger.Release(tx)
}

func (e *Engine) checkpoint() {
	e.mustFit(0)
	x, fault := points.Take(e.table, e.pool)
	must(fault)
	r := e.write(api.Record{Kind: api.Checkpoint, Points: x})
	e.force(r.LSN)
	must(master.Point(e.disk, r.LSN))
}

func (e *Engine) sum(group int) int64 {
	sums, fault := e.registry.Group(group)
	must(fault)
	return e.sumAt(sums, group)
}

// counters: as they stand in their pages, by number.
func (e *Engine) counters() []api.Counter {
	var out []api.Counter
	for _, id := range e.registry.Counters() {
		where, _, _, fault := e.registry.Find(id)
		must(fault)
		out = append(out, e.counterAt(where, id))
	}
	return out
}
