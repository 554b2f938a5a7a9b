package undo_test

import (
	"math/rand/v2"
	"testing"

	"quota/analysis"
	"quota/api"
	"quota/points"
	"quota/redo"
	"quota/sectors"
	"quota/twin"
)

// place: a counter, and where it stands.
type place struct {
	id          int
	where, sums api.Slot
}

// places: of so many counters, whose numbers fall while their slots rise; the first so many pages are the counters', the others the sums'.
func places(s api.Shape, count, of int) []place {
	var out []place
	for k := range count {
		g := k % 4
		out = append(out, place{100 - k, slot(k%of, k/of), slot(of+g%(s.Pages-of), g/(s.Pages-of))})
	}
	return out
}

// author: writes a history of several transactions into a store.
type author struct {
	*store
	rnd    *rand.Rand
	places []place
}

// drawStore: the same number leads to the same store.
func drawStore(t *testing.T, s api.Shape, seed int) *author {
	t.Helper()
	rnd := drawn(1000 + seed)
	a := &author{made(t, s), rnd, places(s, 4+rnd.IntN(9), 1+rnd.IntN(s.Pages-1))}
	for k, x := range a.places {
		a.write(create(x.id, 1+k%4, rnd.Int64N(99)-49, x.where, x.sums))
	}
	for a.log.Free() > 60 {
		a.step()
	}
	return a
}

func drawShape(rnd *rand.Rand) api.Shape {
	return api.Shape{Pages: 2 + rnd.IntN(4), Log: 80 + rnd.IntN(50), Frames: 2 + rnd.IntN(3)}
}

// pick: any live transaction of which that holds, or 0.
func (a *author) pick(fits func(x api.Live) bool) int {
	live := a.table.Live()
	for _, k := range a.rnd.Perm(len(live)) {
		if fits(live[k]) {
			return live[k].Tx
		}
	}
	return 0
}

func open(x api.Live) bool      { return !x.Committed && !x.Undoing }
func undoing(x api.Live) bool   { return x.Undoing }
func committed(x api.Live) bool { return x.Committed }

// left: what a transaction holds, as the model has it.
func (a *author) left(tx int) []api.Record {
	a.t.Helper()
	out, e := model(a.records(), tx)
	if e != api.OK {
		a.t.Fatalf("a history that makes no sense: %d", e)
	}
	return out
}

// step: one record more, or a page that is written.
func (a *author) step() {
	switch k := a.rnd.IntN(20); {
	case k < 3:
		if len(a.table.Live()) < 5 {
			a.write(plain(api.Begin, a.table.Next()))
		}
	case k < 12:
		if tx := a.pick(open); tx > 0 {
			x := a.places[a.rnd.IntN(len(a.places))]
			a.write(at(add(tx, x.id, a.rnd.Int64N(19)-9), x.where, x.sums))
		}
	case k == 12:
		if x, e := points.Take(a.table, a.pool); e == api.OK {
			a.write(api.Record{Kind: api.Checkpoint, Points: x})
		}
	case k < 15:
		if held := a.pool.Held(); len(held) > 0 {
			n := held[a.rnd.IntN(len(held))]
			a.pool.Flush(n)
		}
	default:
		a.turn(k)
	}
}

// turn: a transaction comes nearer to its end.
func (a *author) turn(k int) {
	switch k {
	case 15:
		if tx := a.pick(open); tx > 0 && a.rnd.IntN(3) == 0 {
			a.write(plain(api.Commit, tx))
		}
	case 16:
		if tx := a.pick(committed); tx > 0 && a.rnd.IntN(2) == 0 {
			a.write(plain(api.End, tx))
		}
	case 17:
		if tx := a.pick(open); tx > 0 && a.rnd.IntN(3) == 0 {
			a.write(plain(api.Abort, tx))
		}
	default:
		if tx := a.pick(undoing); tx > 0 {
			if left := a.left(tx); len(left) > 0 {
				a.write(left[a.rnd.IntN(len(left))])
			} else if a.rnd.IntN(4) == 0 {
				a.write(plain(api.End, tx))
			}
		}
	}
}

// losers: those that live and are not committed, by rising number.
func (w *store) losers() []int {
	var out []int
	for _, x := range w.table.Live() {
		if !x.Committed {
			out = append(out, x.Tx)
		}
	}
	return out
}

// restarted: what a disk has, up to the point at which the losers are taken back.
func restarted(t *testing.T, d *sectors.Device, s api.Shape) *store {
	t.Helper()
	if _, err := twin.Finish(d, 2); err != nil {
		t.Fatal(err)
	}
	w := opened(t, d, s)
	w.again()
	return w
}

// again: the table is that of the log's records, and the pages know all of them.
func (w *store) again() {
	w.t.Helper()
	w.replay(w.records())
	found, e := analysis.Run(w.records(), 0)
	if e != api.OK {
		w.t.Fatalf("analysis: %d", e)
	}
	if _, err := redo.Run(w.log, w.pool, found.From); err != nil {
		w.t.Fatal(err)
	}
}

func (w *store) replay(records []api.Record) {
	w.t.Helper()
	for _, r := range records {
		if e := w.table.Note(r); e != api.OK {
			w.t.Fatalf("record %v: %d", r, e)
		}
	}
}
