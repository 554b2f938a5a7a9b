package serial

import (
	"slices"

	"quota/api"
	"quota/interval"
)

// history: of a log's records, as far as they were gone through: the runs, and what is held now.
type history struct {
	runs []Run
	nets map[holder]int64
	held map[int][]int // of each transaction the counters that it has come to hold; those that it holds no more, and some twice, stand there too, so that an undo needs no look at all of them
}

// holder: a transaction, and a counter that it has added to.
type holder struct {
	tx, counter int
}

func newHistory() *history {
	return &history{nets: make(map[holder]int64), held: make(map[int][]int)}
}

// note: the next record.
func (h *history) note(r api.Record) api.Errno {
	if fault := check(r); fault != api.OK {
		return fault
	}
	switch r.Kind {
	case api.Add:
		return h.add(holder{r.Tx, r.Counter.ID}, r.Delta)
	case api.Undo:
		delete(h.nets, holder{r.Tx, r.Counter.ID})
	case api.Commit:
		h.runs = append(h.runs, Run{Tx: r.Tx, Nets: h.taken(r.Tx)})
	}
	return api.OK
}

// check: the numbers of a record that is not passed over.
func check(r api.Record) api.Errno {
	adds := r.Kind == api.Add || r.Kind == api.Undo
	switch {
	case !adds && r.Kind != api.Commit:
		return api.OK
	case r.Tx < 1 || r.Tx > api.MaxTx:
		return api.ErrTx
	case adds && (r.Counter.ID < 1 || r.Counter.ID > api.MaxCounter):
		return api.ErrPlace
	}
	return api.OK
}

func (h *history) add(who holder, delta int64) api.Errno {
	net, holds := h.nets[who]
	net, fault := interval.Add(net, delta)
	if fault != api.OK {
		return fault
	}
	if !holds {
		h.held[who.tx] = append(h.held[who.tx], who.counter)
	}
	h.nets[who] = net
	return api.OK
}

// taken: what the transaction holds, by counter; it holds nothing any more.
func (h *history) taken(tx int) []api.Holding {
	var list []api.Holding
	for _, id := range h.held[tx] {
		who := holder{tx, id}
		if net, holds := h.nets[who]; holds {
			list = append(list, api.Holding{Tx: tx, Counter: id, Delta: net})
			delete(h.nets, who) // it may stand there twice
		}
	}
	delete(h.held, tx)
	slices.SortFunc(list, func(a, b api.Holding) int { return a.Counter - b.Counter })
	return list
}
