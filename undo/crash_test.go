package undo_test

import (
	"math/rand/v2"
	"testing"

	"quota/api"
	"quota/sectors"
	"quota/undo"
)

// losses: of up to three pending writes: every choice of whole ones, and beside it each one torn.
func losses() []api.Loss {
	var out []api.Loss
	for keep := range uint64(8) {
		out = append(out, api.Loss{Keep: []uint64{keep}, Torn: -1})
		for torn := range 3 {
			out = append(out, api.Loss{Keep: []uint64{keep}, Torn: torn, Offset: 511})
		}
	}
	return out
}

func drawLoss(rnd *rand.Rand) api.Loss {
	return api.Loss{Keep: []uint64{rnd.Uint64()}, Torn: rnd.IntN(6) - 1, Offset: rnd.IntN(513)}
}

// takeBackAll: all losers, by rising number, and all of it forced; the first error.
func (w *store) takeBackAll() error {
	for _, tx := range w.losers() {
		if _, err := undo.Run(w.log, w.pool, w.table, tx); err != nil {
			return err
		}
	}
	return w.log.Force(w.log.Last())
}

// ending: a history, and what a disk has behind it when its losers are taken back without a crash.
type ending struct {
	shape   api.Shape
	image   []byte
	records []api.Record
	values  map[int]int64
	calls   int // of the taking back
}

func (x *ending) load(t *testing.T) *store {
	t.Helper()
	d, e := sectors.Load(x.image)
	if e != api.OK {
		t.Fatalf("Load: %d", e)
	}
	return restarted(t, d, x.shape)
}

// endingOf: of a history all of whose records are forced.
func endingOf(t *testing.T, s api.Shape, seed int) *ending {
	t.Helper()
	a := drawStore(t, s, seed)
	a.force()
	x := &ending{shape: s, image: a.disk.Image()}
	w := x.load(t)
	before := w.disk.Calls()
	if err := w.takeBackAll(); err != nil {
		t.Fatal(err)
	}
	x.calls, x.records, x.values = w.disk.Calls()-before, w.records(), w.values()
	return x
}

// wantEnding: the taking back that was cut off comes to the same: no record is lost, and none is there twice.
func (x *ending) wantEnding(w *store) {
	w.t.Helper()
	if err := w.takeBackAll(); err != nil {
		w.t.Fatalf("P19.5: behind a crash: %v", err)
	}
	if got := w.records(); !sameAll(got, x.records) {
		w.t.Fatalf("P19.5: behind a crash the log has %v, want %v", got, x.records)
	}
	w.wantValues(x.values)
	if w.t.Failed() {
		w.t.FailNow()
	}
}

// upAgain: what a crash has left.
func (x *ending) upAgain(w *store) *store {
	w.t.Helper()
	if e := w.disk.Up(); e != api.OK {
		w.t.Fatalf("Up: %d", e)
	}
	return restarted(w.t, w.disk, x.shape)
}

// TestEveryCrash: at each changing call of a taking back, with every choice of what is lost.
func TestEveryCrash(t *testing.T) {
	rnd := drawn(8)
	for seed := 0; seed < 2; {
		x := endingOf(t, api.Shape{Pages: 4, Log: 90, Frames: 2}, 6000+rnd.IntN(1000))
		if x.calls < 40 || x.calls > 80 {
			continue
		}
		seed++
		for step := 1; step <= x.calls; step++ {
			for _, loss := range losses() {
				w := x.load(t)
				w.disk.Arm(step, loss)
				if err := w.takeBackAll(); api.Code(err) != api.ErrDown {
					t.Fatalf("the disk was to give up: %v", err)
				}
				x.wantEnding(x.upAgain(w))
			}
		}
	}
}

// TestCrashOnCrash: given up again and again, whatever is lost each time.
func TestCrashOnCrash(t *testing.T) {
	rnd := drawn(9)
	crashes := 0
	for seed := range 150 {
		s := drawShape(rnd)
		s.Frames = 2
		x := endingOf(t, s, 7000+seed)
		w := x.load(t)
		for range 1 + rnd.IntN(6) {
			w.disk.Arm(1+rnd.IntN(40), drawLoss(rnd))
			if err := w.takeBackAll(); err == nil {
				w.disk.Crash(drawLoss(rnd))
			}
			crashes++
			w = x.upAgain(w)
		}
		x.wantEnding(w)
	}
	if crashes < 200 {
		t.Errorf("a poor draw: %d crashes", crashes)
	}
}
