package undo

import (
	"math"
	"slices"

	"quota/api"
)

// holding: what a transaction has added to a counter in all, and where that one stands.
type holding struct {
	net         int64
	where, sums api.Slot
}

// book: what one transaction holds by its records so far, by the counter's number.
type book struct{ held map[int]holding }

func newBook() *book { return &book{held: map[int]holding{}} }

// read goes on by one of the transaction's records.
func (b *book) read(r api.Record) api.Errno {
	switch r.Kind {
	case api.Add:
		return b.add(r)
	case api.Undo:
		return b.undo(r)
	case api.Commit:
		b.held = map[int]holding{} // a new one: to clear a map takes as long as the most that it ever held
	}
	return api.OK
}

func (b *book) add(r api.Record) api.Errno {
	net := b.held[r.Counter.ID].net
	if passes(net, r.Delta) {
		return api.ErrOverflow
	}
	b.held[r.Counter.ID] = holding{net + r.Delta, r.Where, r.Sums}
	return api.OK
}

// undo: it must have taken back just what was held.
func (b *book) undo(r api.Record) api.Errno {
	h, held := b.held[r.Counter.ID]
	if !held {
		return api.ErrCounter
	}
	if h != (holding{r.Delta, r.Where, r.Sums}) {
		return api.ErrLog
	}
	delete(b.held, r.Counter.ID)
	return api.OK
}

// undos: the records that take back what is held, by rising number of the counter.
func (b *book) undos(tx int) []api.Record {
	var out []api.Record
	for _, id := range b.counters() {
		h := b.held[id]
		out = append(out, api.Record{Kind: api.Undo, Tx: tx, Where: h.where, Sums: h.sums, Delta: h.net, Counter: api.Counter{ID: id}})
	}
	return out
}

func (b *book) counters() []int {
	var out []int
	for id := range b.held {
		out = append(out, id)
	}
	slices.Sort(out)
	return out
}

// passes: is the sum beyond 64 bits? Asked without that sum, which would wrap.
func passes(net, delta int64) bool {
	if delta > 0 {
		return net > math.MaxInt64-delta
	}
	return net < math.MinInt64-delta
}
