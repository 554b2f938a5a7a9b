package redo_test

import (
	"math/rand/v2"
	"slices"
	"testing"

	"quota/api"
	"quota/apply"
	"quota/page"
	"quota/sectors"
)

func drawn(run int) *rand.Rand { return rand.New(rand.NewPCG(18, uint64(run))) }

// past: a log's records, and what they make of each page: its states, from the empty one on.
type past struct {
	shape   api.Shape
	records []api.Record
	states  [][]page.Page
	sums    int // the pages below hold counters, the others groups
}

func newPast(s api.Shape, sums int) *past {
	h := &past{shape: s, sums: sums}
	for n := range s.Pages {
		h.states = append(h.states, []page.Page{{Number: n}})
	}
	return h
}

// last: page n behind all records.
func (h *past) last(n int) page.Page { return h.states[n][len(h.states[n])-1] }

// next: page n as it will be behind the record that comes next.
func (h *past) next(n int) page.Page {
	x := h.last(n)
	return page.Page{Number: n, LSN: len(h.records) + 1, Counters: slices.Clone(x.Counters), Groups: slices.Clone(x.Groups)}
}

func (h *past) note(r api.Record, pages ...page.Page) {
	h.records = append(h.records, r)
	for _, x := range pages {
		h.states[x.Number] = append(h.states[x.Number], x)
	}
}

// create: a counter in the next slot of a page, its group in any slot of another one; nothing, where a page is full.
func (h *past) create(rnd *rand.Rand) {
	a, b := h.next(rnd.IntN(h.sums)), h.next(h.sums+rnd.IntN(h.shape.Pages-h.sums))
	where, sums := slot(a.Number, len(a.Counters)), slot(b.Number, rnd.IntN(len(b.Groups)+1))
	if where.Index == 31 || sums.Index == 84 {
		return
	}
	if sums.Index == len(b.Groups) {
		b.Groups = append(b.Groups, api.Group{ID: 1 + rnd.IntN(1000)})
	}
	r := create(1+rnd.IntN(1000), b.Groups[sums.Index].ID, rnd.Int64N(99)-49, where, sums)
	a.Counters = append(a.Counters, r.Counter)
	b.Groups[sums.Index].Sum += r.Counter.Value
	h.note(r, a, b)
}

// change: of a counter, and of any group of a page; nothing, where there is none.
func (h *past) change(rnd *rand.Rand) {
	a, b := h.next(rnd.IntN(h.sums)), h.next(h.sums+rnd.IntN(h.shape.Pages-h.sums))
	if len(h.records) == 0 || len(a.Counters) == 0 || len(b.Groups) == 0 {
		return
	}
	where, sums := slot(a.Number, rnd.IntN(len(a.Counters))), slot(b.Number, rnd.IntN(len(b.Groups)))
	delta := rnd.Int64N(99) - 49
	r := change(api.Add, a.Counters[where.Index].ID, delta, where, sums)
	if rnd.IntN(3) == 0 {
		r.Kind, delta = api.Undo, -delta
	}
	a.Counters[where.Index].Value += delta
	b.Groups[sums.Index].Sum += delta
	h.note(r, a, b)
}

// other: a record that changes no page.
func (h *past) other(rnd *rand.Rand) {
	lsn := len(h.records) + 1
	if lsn == 1 || rnd.IntN(5) == 0 {
		h.note(began(1 + rnd.IntN(9)))
		return
	}
	before := 1 + rnd.IntN(lsn-1)
	if rnd.IntN(4) == 0 {
		points := api.Points{Live: []api.Live{{Tx: 1, Last: before}}, Dirty: []api.Dirty{{Page: rnd.IntN(64), Since: before}}, Next: 9}
		h.note(api.Record{Kind: api.Checkpoint, Points: points})
		return
	}
	h.note(over([]api.Kind{api.Commit, api.Abort, api.End}[rnd.IntN(3)], 1, before))
}

// drawPast: as many records as the log may have, or some less.
func drawPast(rnd *rand.Rand, s api.Shape) *past {
	h := newPast(s, 1+rnd.IntN(s.Pages-1))
	for range s.Log {
		switch k := rnd.IntN(10); {
		case k < 3:
			h.create(rnd)
		case k < 8:
			h.change(rnd)
		default:
			h.other(rnd)
		}
	}
	return h
}

// drawAges: of each page the state that its home has; now and then all the first, or all the last.
func (h *past) drawAges(rnd *rand.Rand) []int {
	ages := make([]int, h.shape.Pages)
	kind := rnd.IntN(8)
	for n, states := range h.states {
		switch kind {
		case 0:
		case 1:
			ages[n] = len(states) - 1
		case 2:
			ages[n] = max(0, len(states)-1-rnd.IntN(3))
		default:
			ages[n] = rnd.IntN(len(states))
		}
	}
	return ages
}

// missing: the least record that a page of that age doesn't know; the one behind the last, if there is none.
func (h *past) missing(ages []int) int {
	least := len(h.records) + 1
	for n, states := range h.states {
		if ages[n] < len(states)-1 {
			least = min(least, states[ages[n]+1].LSN)
		}
	}
	return least
}

// changes: how many states lie between the pages' ages and their last.
func (h *past) changes(ages []int) int {
	count := 0
	for n, states := range h.states {
		count += len(states) - 1 - ages[n]
	}
	return count
}

// image: a disk with the pages at these ages, and with all records, which are forced.
func (h *past) image(t *testing.T, ages []int) []byte {
	t.Helper()
	w := made(t, h.shape, h.records...)
	w.force()
	for n, states := range h.states {
		w.lay(n, bytesOf(t, states[ages[n]]))
	}
	return w.disk.Image()
}

// store: what an image has.
func (h *past) store(t *testing.T, image []byte) *store {
	t.Helper()
	d, e := sectors.Load(image)
	if e != api.OK {
		t.Fatalf("Load: %d", e)
	}
	w := opened(t, d, h.shape)
	if w.log.Last() != len(h.records) {
		t.Fatalf("the log has %d records, want %d", w.log.Last(), len(h.records))
	}
	return w
}

// unforced: a store with the pages at these ages, and with records of which those alone are forced that a page knows.
func (h *past) unforced(t *testing.T, ages []int) *store {
	t.Helper()
	w, known := made(t, h.shape, h.records...), 0
	for n, states := range h.states {
		x := states[ages[n]]
		known = max(known, x.LSN)
		w.lay(n, bytesOf(t, x))
	}
	if err := w.log.Force(known); err != nil {
		t.Fatal(err)
	}
	return w
}

// byHand: P18.1's words, one behind the other, of numbers that are in their range.
func (w *store) byHand(from int) (count, at int, e api.Errno) {
	for lsn := from; from > 0 && lsn <= w.log.Last(); lsn++ {
		r, e := w.log.Get(lsn)
		if e != api.OK {
			return 0, lsn, e
		}
		for _, n := range apply.Pages(r) {
			x, err := w.pool.Get(n)
			if err != nil {
				return 0, lsn, api.Code(err)
			}
			y, did, e := apply.Do(x, r)
			if e != api.OK {
				return 0, lsn, e
			}
			if !did {
				continue
			}
			if err := w.pool.Put(y); err != nil {
				return 0, lsn, api.Code(err)
			}
			count++
		}
	}
	return count, 0, api.OK
}
