package serial_test

import (
	"math/rand/v2"
	"slices"
	"testing"

	"quota/api"
	"quota/engine"
	"quota/log"
	"quota/master"
	"quota/sectors"
	"quota/serial"
)

// store: an engine and its disk; live are its transactions.
type store struct {
	*engine.Engine
	t    *testing.T
	disk *sectors.Device
	live []int
}

var shape = api.Shape{Pages: 3, Log: 400, Frames: 2}

func made(t *testing.T) *store {
	t.Helper()
	need, _ := master.Need(shape)
	disk, e := sectors.New(need)
	if e != api.OK {
		t.Fatal(e)
	}
	w := &store{t: t, disk: disk}
	var err error
	if w.Engine, err = engine.Format(disk, shape); err != nil {
		t.Fatal(err)
	}
	return w
}

// records: of the log as it lies on the disk.
func (w *store) records() []api.Record {
	w.t.Helper()
	disk, e := sectors.Load(w.disk.Image())
	first, f := master.Log(shape)
	if e != api.OK || f != api.OK {
		w.t.Fatal(e, f)
	}
	l, err := log.Open(disk, first, shape.Log)
	if err != nil {
		w.t.Fatal(err)
	}
	list := make([]api.Record, l.Last())
	for k := range list {
		list[k], _ = l.Get(k + 1)
	}
	return list
}

// step: drawn; what is refused is as good as any other.
func (w *store) step(d *rand.Rand) {
	switch d.IntN(12) {
	case 0:
		lo := d.Int64N(20) - 20
		w.Create(counter(1+d.IntN(6), 1+d.IntN(2), lo, lo+30, lo+d.Int64N(31)))
	case 1, 2:
		if tx, err := w.Begin(); err == nil && tx > 0 {
			w.live = append(w.live, tx)
		}
	case 3:
		w.ends(d, w.Commit)
	case 4:
		w.ends(d, w.Abort)
	case 5:
		w.Checkpoint()
	case 6:
		w.Flush(d.IntN(3))
	default:
		if len(w.live) > 0 {
			w.Add(w.live[d.IntN(len(w.live))], 1+d.IntN(6), d.Int64N(13)-6)
		}
	}
}

// ends: one of those that live, by this call.
func (w *store) ends(d *rand.Rand, call func(tx int) error) {
	if len(w.live) == 0 {
		return
	}
	k := d.IntN(len(w.live))
	if err := call(w.live[k]); err != nil {
		w.t.Fatal(err)
	}
	w.live = slices.Delete(w.live, k, k+1)
}

// crash: the disk gives up, and the engine is opened again.
func (w *store) crash(d *rand.Rand) {
	w.t.Helper()
	loss := api.Loss{Keep: []uint64{d.Uint64()}, Torn: d.IntN(3) - 1, Offset: d.IntN(api.SectorSize)}
	if e := w.disk.Crash(loss); e != api.OK {
		w.t.Fatal(e)
	}
	if e := w.disk.Up(); e != api.OK {
		w.t.Fatal(e)
	}
	var err error
	if w.Engine, err = engine.Open(w.disk); err != nil {
		w.t.Fatal(err)
	}
	w.live = nil
}

// TestLogsOfAStore: the engine's own log played again comes to its counters, crashes or not; in another order it comes to the same (P6).
func TestLogsOfAStore(t *testing.T) {
	ran, crashes := 0, 0
	for round := range 60 {
		d := drawn(100 + round)
		w := made(t)
		for range 40 + d.IntN(120) {
			w.step(d)
			if d.IntN(40) == 0 {
				w.crash(d)
				crashes++
				w.played(d)
			}
		}
		for len(w.live) > 0 {
			w.ends(d, w.Commit)
		}
		if err := w.Checkpoint(); err != nil {
			t.Fatal("a poor draw: the log is full")
		}
		ran += w.played(d)
	}
	if ran < 300 || crashes < 60 {
		t.Errorf("a poor draw: %d runs, %d crashes", ran, crashes)
	}
}

// played: nobody lives now, and all is forced; how many runs there were.
func (w *store) played(d *rand.Rand) int {
	w.t.Helper()
	want, err := w.Counters()
	if err != nil {
		w.t.Fatal(err)
	}
	records := w.records()
	runs, end := plays(w.t, records)
	if !slices.Equal(end, want) {
		w.t.Fatalf("P21.8: of %v Play answers %v, the store has %v", records, end, want)
	}
	start, _ := serial.Start(records)
	other := shuffled(d, runs, d.Perm(len(runs)))
	if values, e := serial.Values(start, other); !slices.Equal(values, want) || e != api.OK {
		w.t.Fatalf("P21.6: Values(%v, %v) = %v, %d, the store has %v", start, other, values, e, want)
	}
	return len(runs)
}
