package redo_test

import (
	"bytes"
	"math/rand/v2"
	"slices"
	"testing"

	"quota/api"
	"quota/redo"
)

func drawShape(rnd *rand.Rand) api.Shape {
	return api.Shape{Pages: 2 + rnd.IntN(6), Log: 4 + rnd.IntN(40), Frames: 2 + rnd.IntN(7)}
}

// wantLast: every page is what all records make of an empty one.
func (h *past) wantLast(w *store) {
	w.t.Helper()
	for n := range h.states {
		if x, err := w.pool.Get(n); err != nil || !same(x, h.last(n)) {
			w.t.Fatalf("P18.4: page %d is %v, %v, want %v", n, x, err, h.last(n))
		}
	}
}

// wantRecords: the log has those that it had.
func (h *past) wantRecords(w *store) {
	w.t.Helper()
	if w.log.Last() != len(h.records) {
		w.t.Fatalf("P18.2: %d records are %d", len(h.records), w.log.Last())
	}
	for k, want := range h.records {
		if r, e := w.log.Get(k + 1); e != api.OK || r.Kind != want.Kind || r.Tx != want.Tx || r.Where != want.Where || r.Delta != want.Delta {
			w.t.Fatalf("P18.2: record %d is %v, %d, want %v", k+1, r, e, want)
		}
	}
}

// run: Run, which must answer nil.
func (w *store) run(from int) int {
	w.t.Helper()
	n, err := redo.Run(w.log, w.pool, from)
	if err != nil {
		w.t.Fatalf("P18.4: Run from %d of %d = %v", from, w.log.Last(), err)
	}
	return n
}

// drawFroms: 1, the least record that is missing, and one between.
func drawFroms(rnd *rand.Rand, missing int) []int {
	return []int{1, missing, 1 + rnd.IntN(missing)}
}

func TestHistory(t *testing.T) {
	rnd := drawn(0)
	total, full, late := 0, 0, 0
	for range 400 {
		h := drawPast(rnd, drawShape(rnd))
		ages := h.drawAges(rnd)
		missing, changes := h.missing(ages), h.changes(ages)
		image := h.image(t, ages)
		for _, from := range drawFroms(rnd, missing) {
			w := h.store(t, image)
			if n := w.run(from); n != changes {
				t.Fatalf("P18.1: Run from %d = %d, and %d changes are missing", from, n, changes)
			}
			h.wantRecords(w)
			h.wantLast(w)
		}
		total += changes
		if missing > len(h.records) {
			full++
		} else if missing > 3 {
			late++
		}
	}
	if total < 4000 || full < 20 || late < 40 {
		t.Errorf("a poor draw: %d changes, %d where none is missing, %d where the first ones are not", total, full, late)
	}
}

// TestEveryFrom: of some logs, each record that may be the first.
func TestEveryFrom(t *testing.T) {
	rnd := drawn(1)
	for range 25 {
		h := drawPast(rnd, drawShape(rnd))
		ages := h.drawAges(rnd)
		image := h.image(t, ages)
		for from := 1; from <= h.missing(ages); from++ {
			w := h.store(t, image)
			w.want(from, h.changes(ages))
			h.wantLast(w)
		}
	}
}

// TestEveryAge: of two pages, each state of the one beside each of the other.
func TestEveryAge(t *testing.T) {
	rnd := drawn(2)
	h := drawPast(rnd, api.Shape{Pages: 2, Log: 18, Frames: 2})
	for a := range h.states[0] {
		for b := range h.states[1] {
			ages := []int{a, b}
			for _, from := range drawFroms(rnd, h.missing(ages)) {
				w := h.store(t, h.image(t, ages))
				w.want(from, h.changes(ages))
				h.wantLast(w)
			}
		}
	}
	if len(h.states[0]) < 8 || len(h.states[1]) < 8 {
		t.Errorf("a poor draw: %d states and %d", len(h.states[0]), len(h.states[1]))
	}
}

// TestFullPages: as many counters and groups as a page has room for.
func TestFullPages(t *testing.T) {
	h := newPast(api.Shape{Pages: 4, Log: 96, Frames: 2}, 3)
	for k := range 84 {
		a, b := h.next(k/31), h.next(3)
		r := create(k+1, k+1, int64(k), slot(k/31, k%31), slot(3, k))
		a.Counters = append(a.Counters, r.Counter)
		b.Groups = append(b.Groups, api.Group{ID: k + 1, Sum: int64(k)})
		h.note(r, a, b)
	}
	w := made(t, h.shape, h.records...)
	w.want(1, 168)
	h.wantLast(w)
	w.append(create(99, 84, 1, slot(0, 30), slot(3, 83)))
	w.refused(85, 85, api.ErrSlot) // it is taken
	h.wantLast(w)
}

// TestTwiceIsOnce: at once, and of what the disk has when all pages were written.
func TestTwiceIsOnce(t *testing.T) {
	rnd := drawn(3)
	for range 200 {
		h := drawPast(rnd, drawShape(rnd))
		ages := h.drawAges(rnd)
		from := 1 + rnd.IntN(h.missing(ages))
		w := h.store(t, h.image(t, ages))
		w.run(from)
		w.wantNothingLeft(from)
		h.wantLast(w)
		for _, n := range w.pool.Held() {
			if err := w.pool.Flush(n); err != nil {
				t.Fatal(err)
			}
		}
		image := w.disk.Image()
		w = h.store(t, image)
		w.wantNothingLeft(from)
		h.wantLast(w)
		if w.disk.Calls() != 0 || !bytes.Equal(w.disk.Image(), image) {
			t.Fatal("P18.3: a Run that did nothing has changed the disk")
		}
	}
}

// wantNothingLeft: of the same records and of those from a later one on.
func (w *store) wantNothingLeft(from int) {
	w.t.Helper()
	for first := from; first <= w.log.Last()+1; first++ {
		if n := w.run(first); n != 0 {
			w.t.Fatalf("P18.3: behind a Run from %d, Run from %d = %d", from, first, n)
		}
	}
}

// TestNothingIsWrittenWhereAllPagesFit: what Run changes stays in the pool, dirty since the first change.
func TestNothingIsWrittenWhereAllPagesFit(t *testing.T) {
	rnd := drawn(4)
	for range 200 {
		s := drawShape(rnd)
		s.Frames = s.Pages
		h := drawPast(rnd, s)
		ages := h.drawAges(rnd)
		w := h.unforced(t, ages)
		calls, forced, image := w.disk.Calls(), w.log.Forced(), w.disk.Image()
		w.run(1)
		if w.disk.Calls() != calls || w.log.Forced() != forced || len(w.disk.Cache()) > 0 || !bytes.Equal(w.disk.Image(), image) {
			t.Fatalf("P18.2: of %d records %d were forced and %d are, %d calls were made", w.log.Last(), forced, w.log.Forced(), w.disk.Calls()-calls)
		}
		h.wantRecords(w)
		var dirty []api.Dirty
		for n, states := range h.states {
			if ages[n] < len(states)-1 {
				dirty = append(dirty, api.Dirty{Page: n, Since: states[ages[n]+1].LSN})
			}
		}
		if got := w.pool.Dirty(); !slices.Equal(got, dirty) {
			t.Fatalf("P18.2: the dirty pages are %v, want %v", got, dirty)
		}
	}
}

// spoil: now and then a history that can't be done whole: a page of no bytes, a pinned one, a disk that gives up.
func (w *store) spoil(kind, n, step int) {
	w.t.Helper()
	switch kind {
	case 0:
		w.lay(n, bytes.Repeat([]byte{7}, 1024))
	case 1:
		w.pinned(n)
		w.pinned((n + 1) % w.shape.Pages)
	case 2:
		w.disk.Arm(step, api.Loss{})
	}
}

// TestAsTheWordsSay: the same calls of the pool and of the log, one behind the other, and no more; from any record on.
func TestAsTheWordsSay(t *testing.T) {
	rnd := drawn(5)
	met := map[api.Errno]int{}
	for range 1500 {
		s := drawShape(rnd)
		s.Frames = 2 + rnd.IntN(2)
		h := drawPast(rnd, s)
		ages, from := h.drawAges(rnd), rnd.IntN(len(h.records)+2)
		if rnd.IntN(3) > 0 {
			from = rnd.IntN(h.missing(ages) + 1)
		}
		w, twin := h.unforced(t, ages), h.unforced(t, ages)
		kind, n, step := rnd.IntN(6), rnd.IntN(h.shape.Pages), 1+rnd.IntN(30)
		w.spoil(kind, n, step)
		twin.spoil(kind, n, step)
		count, at, e := twin.byHand(from)
		met[e]++
		if e == api.OK {
			w.want(from, count)
		} else {
			w.refused(from, at, e)
		}
		w.wantSame(twin)
		if t.Failed() {
			t.FailNow()
		}
	}
	for _, e := range []api.Errno{api.OK, api.ErrDown, api.ErrMark, api.ErrFull, api.ErrSlot} {
		if met[e] < 20 {
			t.Errorf("a poor draw: %v", met)
		}
	}
}

// wantSame: all that the two stores tell.
func (w *store) wantSame(o *store) {
	w.t.Helper()
	if w.disk.Calls() != o.disk.Calls() || w.log.Forced() != o.log.Forced() || w.log.Last() != o.log.Last() {
		w.t.Errorf("P18.2: %d changing calls, %d forced, %d records, want %d, %d, %d", w.disk.Calls(), w.log.Forced(), w.log.Last(), o.disk.Calls(), o.log.Forced(), o.log.Last())
	}
	if !bytes.Equal(w.disk.Image(), o.disk.Image()) || len(w.disk.Cache()) != len(o.disk.Cache()) {
		w.t.Error("P18.2: the disks are not the same")
	}
	if !slices.Equal(w.pool.Held(), o.pool.Held()) || !slices.Equal(w.pool.Dirty(), o.pool.Dirty()) {
		w.t.Errorf("P18.1: held %v, dirty %v, want %v, %v", w.pool.Held(), w.pool.Dirty(), o.pool.Held(), o.pool.Dirty())
	}
	for n := range w.shape.Pages {
		x, err := w.pool.Get(n)
		y, want := o.pool.Get(n)
		if api.Code(err) != api.Code(want) || !same(x, y) {
			w.t.Errorf("P18.1: page %d is %v, %v, want %v, %v", n, x, err, y, want)
		}
	}
}
