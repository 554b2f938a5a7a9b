package redo_test

import (
	"errors"
	"math/rand/v2"
	"testing"

	"quota/api"
	"quota/redo"
	"quota/twin"
)

// losses: of up to three pending writes: every choice of whole ones, and beside it each one torn.
func losses() []api.Loss {
	var out []api.Loss
	for keep := range uint64(8) {
		out = append(out, api.Loss{Keep: []uint64{keep}, Torn: -1})
		for torn := range 3 {
			for _, offset := range []int{8, 511} {
				out = append(out, api.Loss{Keep: []uint64{keep}, Torn: torn, Offset: offset})
			}
		}
	}
	return out
}

func drawLoss(rnd *rand.Rand) api.Loss {
	return api.Loss{Keep: []uint64{rnd.Uint64()}, Torn: rnd.IntN(4) - 1, Offset: rnd.IntN(513)}
}

// givesUp: Run, within which the disk gives up; the fault names a record that is done again.
func (w *store) givesUp(from int) {
	w.t.Helper()
	n, err := redo.Run(w.log, w.pool, from)
	var f *api.Fault
	if n != 0 || !errors.As(err, &f) || f.Call != "Run" || f.At < from || f.At > w.log.Last() || f.Err != error(api.ErrDown) {
		w.t.Fatalf("P18.1: Run from %d over a disk that gives up = %d, %v", from, n, err)
	}
}

// upAgain: what a crash has left is opened.
func (h *past) upAgain(w *store) *store {
	w.t.Helper()
	if e := w.disk.Up(); e != api.OK {
		w.t.Fatalf("Up: %d", e)
	}
	if _, err := twin.Finish(w.disk, 2); err != nil {
		w.t.Fatalf("P18.5: Finish = %v", err)
	}
	up := opened(w.t, w.disk, h.shape)
	if up.log.Last() != len(h.records) {
		w.t.Fatalf("P18.5: of %d records that were forced %d are there", len(h.records), up.log.Last())
	}
	return up
}

// writing: a history in which a pool of two frames must write pages again and again.
func writing(t *testing.T) *past {
	t.Helper()
	rnd := drawn(6)
	for {
		h := drawPast(rnd, api.Shape{Pages: 4, Log: 16, Frames: 2})
		if h.sums == 2 && h.changes(make([]int, 4)) >= 18 {
			return h
		}
	}
}

// TestEveryCrash: at each changing call of a Run, with every choice of what is lost.
func TestEveryCrash(t *testing.T) {
	h := writing(t)
	for _, ages := range [][]int{{0, 0, 0, 0}, {2, 0, 1, 3}} {
		image, from := h.image(t, ages), h.missing(ages)
		plain := h.store(t, image)
		plain.want(from, h.changes(ages))
		steps := plain.disk.Calls()
		if steps < 50 {
			t.Fatalf("a poor history: %d changing calls", steps)
		}
		for n := 1; n <= steps; n++ {
			for _, loss := range losses() {
				w := h.store(t, image)
				w.disk.Arm(n, loss)
				w.givesUp(from)
				w = h.upAgain(w)
				w.run(from)
				h.wantLast(w)
			}
		}
	}
}

// TestCrashBehind: a Run that has answered nil, of which the pool is lost.
func TestCrashBehind(t *testing.T) {
	h := writing(t)
	ages := []int{0, 0, 0, 0}
	image := h.image(t, ages)
	for _, loss := range losses() {
		w := h.store(t, image)
		w.run(1)
		w.disk.Crash(loss)
		w = h.upAgain(w)
		w.run(1)
		h.wantLast(w)
	}
}

// TestCrashOnCrash: given up again and again, each time somewhat later.
func TestCrashOnCrash(t *testing.T) {
	rnd := drawn(7)
	crashes := 0
	for range 150 {
		s := drawShape(rnd)
		s.Frames = 2
		h := drawPast(rnd, s)
		ages := h.drawAges(rnd)
		from := 1 + rnd.IntN(h.missing(ages))
		w := h.store(t, h.image(t, ages))
		for range 1 + rnd.IntN(9) {
			w.disk.Arm(1+rnd.IntN(30), drawLoss(rnd))
			if _, err := redo.Run(w.log, w.pool, from); err == nil {
				break
			}
			crashes++
			w = h.upAgain(w)
		}
		if w.disk.Down() {
			t.Fatal("the disk was to run again")
		}
		w.disk.Crash(drawLoss(rnd))
		w = h.upAgain(w)
		w.run(from)
		h.wantLast(w)
		w.wantNothingLeft(from)
	}
	if crashes < 200 {
		t.Errorf("a poor draw: %d crashes", crashes)
	}
}
