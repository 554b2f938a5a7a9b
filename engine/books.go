package engine

import (
	"slices"

	"quota/api"
	"quota/interval"
	"quota/ledger"
	"quota/registry"
	"quota/room"
	"quota/txns"
)

// books: what is known without a look at the disk: what may be added, where all of it stands, who lives, what of the log is promised.
type books struct {
	ledger   *ledger.Ledger
	registry *registry.Registry
	table    *txns.Table
	room     *room.Room
}

// newBooks: without counters; those live that the points say, and nothing is promised to them.
func newBooks(pages int, x api.Points) books {
	r, fault := registry.New(pages)
	must(fault)
	t, fault := txns.Load(x)
	must(fault)
	return books{ledger: ledger.New(), registry: r, table: t, room: room.New()}
}

func (b *books) mustLive(tx int) {
	_, fault := b.table.Get(tx)
	must(fault)
}

// mayBegin: asked by itself, for the table would begin one, and the room is still to be asked.
func (b *books) mayBegin() {
	if len(b.table.Live()) >= api.MaxLive || b.table.Next() > api.MaxTx {
		giveUp(api.ErrMany)
	}
}

// mayCreate: the counter's record. That there is no slot comes behind all that may be wrong with the counter.
func (b *books) mayCreate(c api.Counter) api.Record {
	where, sums, planned := b.registry.Plan(c.ID, c.Group)
	if planned != api.ErrFull {
		must(planned)
	}
	must(interval.Check(c.Bounds))
	if !interval.Has(c.Bounds, c.Value) {
		giveUp(api.ErrBounds)
	}
	b.mayGrow(c.Group, c.Value)
	must(planned)
	return api.Record{Kind: api.Create, Where: where, Sums: sums, Counter: c}
}

// mayGrow: by a settled value, which belongs to both ends of the worst case. A group that is not there yet has none.
func (b *books) mayGrow(group int, value int64) {
	worst, fault := b.ledger.Worst(group)
	if fault != api.ErrGroup {
		must(fault)
	}
	for _, end := range [...]int64{worst.Lo, worst.Hi} {
		_, fault := interval.Add(end, value)
		must(fault)
	}
}

// mayAdd: the delta's record, and how much of the log it promises.
func (b *books) mayAdd(tx, counter int, delta int64) (api.Record, int) {
	b.mustLive(tx)
	must(b.ledger.May(tx, counter, delta))
	more := 0
	if held := b.ledger.Holdings(tx); !has(held, counter) {
		if len(held) >= api.MaxHoldings {
			giveUp(api.ErrMany)
		}
		more = 1
	}
	where, _, sums, fault := b.registry.Find(counter)
	must(fault)
	return api.Record{Kind: api.Add, Tx: tx, Where: where, Sums: sums, Delta: delta, Counter: api.Counter{ID: counter}}, more
}

func has(held []api.Holding, counter int) bool {
	return slices.ContainsFunc(held, func(h api.Holding) bool { return h.Counter == counter })
}

// enter: a record of an open engine, in all books but the table, which knows it as soon as the log does. (The nets of a transaction that ends are told of apart: a commit's only behind its force.)
func (b *books) enter(r api.Record) {
	switch r.Kind {
	case api.Begin:
		must(b.room.Begin(r.Tx))
	case api.Create:
		b.takeSlots(r)
		must(b.ledger.Create(r.Counter))
	case api.Add:
		must(b.ledger.Add(r.Tx, r.Counter.ID, r.Delta))
		must(b.room.Hold(r.Tx, r.Counter.ID))
	case api.Commit, api.Abort, api.Undo, api.End:
		must(b.room.Wrote(r.Tx, r.Kind, r.Counter.ID))
	}
}

func (b *books) takeSlots(r api.Record) {
	must(b.registry.Take(r.Counter.ID, r.Counter.Group, r.Where, r.Sums))
}

func (b *books) read(counter int) api.Range {
	r, fault := b.ledger.Read(counter)
	must(fault)
	return r
}

func (b *books) live() []int {
	var out []int
	for _, x := range b.table.Live() {
		out = append(out, x.Tx)
	}
	return out
}

func (b *books) holdings(tx int) []api.Holding {
	b.mustLive(tx)
	return b.ledger.Holdings(tx)
}
