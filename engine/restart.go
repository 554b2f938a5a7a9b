package engine

import (
	"slices"

	"quota/analysis"
	"quota/api"
	"quota/ledger"
	"quota/redo"
	"quota/undo"
)

// restart: the engine knows its disk alone, and comes to know the rest.
func (e *Engine) restart(pages, point int) {
	all := e.records(1)
	found, fault := analysis.Run(all, point)
	must(fault)
	_, err := redo.Run(e.log, e.pool, found.From)
	must(err)
	e.books = newBooks(pages, api.Points{Live: found.Live, Next: found.Next})
	for _, x := range found.Live {
		e.finish(x)
	}
	e.force(e.log.Last())
	e.fill(all)
}

// finish: one that lived lives no more.
func (e *Engine) finish(x api.Live) {
	if x.Committed {
		e.chain(api.Record{Kind: api.End, Tx: x.Tx})
		return
	}
	_, err := undo.Run(e.log, e.pool, e.table, x.Tx)
	must(err)
}

// fill: the books know the counters that the log tells of. The ledger takes them all at once, for not every one of a group's sums on the way need fit.
func (e *Engine) fill(all []api.Record) {
	var list []api.Counter
	for _, r := range e.created(all) {
		c := r.Counter
		c.Value = e.counterAt(r.Where, c.ID).Value
		list = append(list, c)
	}
	l, fault := ledger.Load(list)
	must(fault)
	e.ledger = l
}

// created: the records of creations, by their counters' numbers. The registry has them in the log's order, in which they got their slots.
func (e *Engine) created(all []api.Record) []api.Record {
	var out []api.Record
	for _, r := range all {
		if r.Kind == api.Create {
			e.takeSlots(r)
			out = append(out, r)
		}
	}
	slices.SortFunc(out, func(a, b api.Record) int { return a.Counter.ID - b.Counter.ID })
	return out
}
