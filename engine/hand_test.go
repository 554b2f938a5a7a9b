package engine_test

import (
	"slices"
	"testing"

	"quota/analysis"
	"quota/api"
	"quota/apply"
	"quota/log"
	"quota/master"
	"quota/pool"
	"quota/redo"
	"quota/sectors"
	"quota/twin"
	"quota/txns"
	"quota/undo"
)

// hand: what the chapter's words do to a disk, by the calls of the layers below alone. Whether a step is taken the model says.
type hand struct {
	t    *testing.T
	disk *sectors.Device
	log  *log.Log
	pool *pool.Pool
	last map[int]int // of each live transaction its last record
}

// place: of counter or group number k, from the first page on or from the last one back.
func place(k, each int) api.Slot { return slot(k/each, k%each) }

func (m *model) where(id int) api.Slot { return place(m.index(id), 31) }

// sums: of the group of that number, which may be one that is not there yet.
func (m *model) sums(group int) api.Slot {
	k := slices.Index(m.groups(), group)
	if k < 0 {
		k = len(m.groups())
	}
	s := place(k, 84)
	return slot(m.shape.Pages-1-s.Page, s.Index)
}

func (m *model) groupOf(id int) int { return m.counters[m.index(id)].Group }

// write: a record goes to the log.
func (h *hand) write(r api.Record) api.Record {
	h.t.Helper()
	r.Prev = h.last[r.Tx]
	lsn, e := h.log.Append(r)
	if e != api.OK {
		h.t.Fatalf("no record %v: %d", r, e)
	}
	r.LSN = lsn
	switch r.Kind {
	case api.Begin, api.Add, api.Undo, api.Commit, api.Abort:
		h.last[r.Tx] = lsn
	case api.End:
		delete(h.last, r.Tx)
	}
	return r
}

// pages: and to its pages.
func (h *hand) pages(r api.Record) error {
	for _, n := range apply.Pages(r) {
		x, err := h.pool.Get(n)
		if err != nil {
			return err
		}
		y, did, e := apply.Do(x, r)
		if e != api.OK || !did {
			h.t.Fatalf("%v on page %d: %v, %d", r, n, did, e)
		}
		if err := h.pool.Put(y); err != nil {
			return err
		}
	}
	return nil
}

func (h *hand) changes(kind api.Kind, m *model, tx, id int, delta int64) error {
	r := api.Record{Kind: kind, Tx: tx, Where: m.where(id), Sums: m.sums(m.groupOf(id)), Delta: delta, Counter: api.Counter{ID: id}}
	return h.pages(h.write(r))
}

func (h *hand) create(m *model, c api.Counter) error {
	r := h.write(api.Record{Kind: api.Create, Where: place(len(m.counters), 31), Sums: m.sums(c.Group), Counter: c})
	if err := h.log.Force(r.LSN); err != nil {
		return err
	}
	return h.pages(r)
}

func (h *hand) commit(tx int) error {
	r := h.write(api.Record{Kind: api.Commit, Tx: tx})
	if err := h.log.Force(r.LSN); err != nil {
		return err
	}
	h.write(api.Record{Kind: api.End, Tx: tx})
	return nil
}

func (h *hand) abort(m *model, tx int) error {
	h.write(api.Record{Kind: api.Abort, Tx: tx})
	for _, x := range m.holdings(tx) {
		if err := h.changes(api.Undo, m, tx, x.Counter, x.Delta); err != nil {
			return err
		}
	}
	h.write(api.Record{Kind: api.End, Tx: tx})
	return nil
}

func (h *hand) checkpoint(m *model) error {
	x := api.Points{Dirty: h.pool.Dirty(), Next: m.next}
	for _, tx := range m.live {
		x.Live = append(x.Live, api.Live{Tx: tx, Last: h.last[tx]})
	}
	r := h.write(api.Record{Kind: api.Checkpoint, Points: x})
	if err := h.log.Force(r.LSN); err != nil {
		return err
	}
	return master.Point(h.disk, r.LSN)
}

// counters: the page of each one is got, by the counters' numbers.
func (h *hand) counters() error {
	h.t.Helper()
	created := slices.DeleteFunc(h.records(), func(r api.Record) bool { return r.Kind != api.Create })
	slices.SortFunc(created, func(a, b api.Record) int { return a.Counter.ID - b.Counter.ID })
	for _, r := range created {
		if _, err := h.pool.Get(r.Where.Page); err != nil {
			return err
		}
	}
	return nil
}

// play: a step that is taken; m stands as it did ahead of it.
func (h *hand) play(s api.Step, m *model) error {
	h.t.Helper()
	switch s.Kind {
	case api.StepBegin:
		h.write(api.Record{Kind: api.Begin, Tx: m.next})
	case api.StepCreate:
		return h.create(m, counterOf(s))
	case api.StepAdd:
		return h.changes(api.Add, m, s.Tx, s.Counter, s.A)
	case api.StepGroup:
		_, err := h.pool.Get(m.sums(s.Group).Page)
		return err
	case api.StepCommit:
		return h.commit(s.Tx)
	case api.StepAbort:
		return h.abort(m, s.Tx)
	case api.StepCheckpoint:
		return h.checkpoint(m)
	case api.StepEvict:
		return h.pool.Evict(s.Counter)
	case api.StepFlush:
		return h.pool.Flush(s.Counter)
	case api.StepList:
		return h.counters()
	}
	return nil
}

func (h *hand) records() []api.Record {
	h.t.Helper()
	var out []api.Record
	for lsn := 1; lsn <= h.log.Last(); lsn++ {
		r, e := h.log.Get(lsn)
		if e != api.OK {
			h.t.Fatalf("Get(%d): %d", lsn, e)
		}
		out = append(out, r)
	}
	return out
}

// reach: the log and an empty pool.
func (h *hand) reach(s api.Shape) error {
	l, err := log.Open(h.disk, 5+2*s.Pages, s.Log)
	if err != nil {
		return err
	}
	p, e := pool.New(h.disk, l, s)
	if e != api.OK {
		h.t.Fatalf("no pool: %d", e)
	}
	h.log, h.pool, h.last = l, p, map[int]int{}
	return nil
}

// restart: DOC.md's, step by step; behind it the counters are read.
func (h *hand) restart() error {
	h.t.Helper()
	s, point, err := master.Open(h.disk)
	if err != nil {
		return err
	}
	if _, err := twin.Finish(h.disk, 2); err != nil {
		return err
	}
	if err := h.reach(s); err != nil {
		return err
	}
	found, e := analysis.Run(h.records(), point)
	if e != api.OK {
		h.t.Fatalf("analysis: %d", e)
	}
	if _, err := redo.Run(h.log, h.pool, found.From); err != nil {
		return err
	}
	if err := h.finish(found); err != nil {
		return err
	}
	if err := h.log.Force(h.log.Last()); err != nil {
		return err
	}
	return h.counters()
}

// finish: those that lived, by rising number.
func (h *hand) finish(found analysis.Found) error {
	table, e := txns.Load(api.Points{Live: found.Live, Next: found.Next})
	if e != api.OK {
		h.t.Fatalf("no table: %d", e)
	}
	for _, x := range found.Live {
		if !x.Committed {
			if _, err := undo.Run(h.log, h.pool, table, x.Tx); err != nil {
				return err
			}
			continue
		}
		h.last[x.Tx] = x.Last
		h.write(api.Record{Kind: api.End, Tx: x.Tx})
	}
	return nil
}
