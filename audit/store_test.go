package audit_test

import (
	"math/rand/v2"
	"slices"
	"testing"

	"quota/api"
	"quota/audit"
	"quota/engine"
	"quota/master"
	"quota/sectors"
)

// store: an engine and its disk; live are its transactions.
type store struct {
	*engine.Engine
	t    *testing.T
	disk *sectors.Device
	live []int
}

// storeShape: with room for so much that a spoilt thing is rarely one that nobody looks at.
var storeShape = api.Shape{Pages: 4, Log: 45, Frames: 2}

func newStore(t *testing.T, shape api.Shape) *store {
	t.Helper()
	need, _ := master.Need(shape)
	disk, e := sectors.New(need)
	if e != api.OK {
		t.Fatal(e)
	}
	w := &store{t: t, disk: disk}
	var err error
	if w.Engine, err = engine.Format(disk, shape); err != nil {
		t.Fatal(err)
	}
	return w
}

// step: drawn; what is refused is as good as any other. False: the disk has given up.
func (w *store) step(d *rand.Rand, ids int) bool {
	switch d.IntN(14) {
	case 0, 1:
		lo := d.Int64N(20) - 20
		w.Create(counter(1+d.IntN(ids), 1+d.IntN(3), lo, lo+30, lo+d.Int64N(31)))
	case 2, 3:
		if tx, err := w.Begin(); err == nil && tx > 0 {
			w.live = append(w.live, tx)
		}
	case 4:
		w.ends(d, w.Commit)
	case 5:
		w.ends(d, w.Abort)
	case 6:
		w.Checkpoint()
	case 7:
		w.Flush(d.IntN(4))
	case 8:
		w.Evict(d.IntN(4))
	default:
		if len(w.live) > 0 {
			w.Add(w.live[d.IntN(len(w.live))], 1+d.IntN(ids), d.Int64N(13)-6)
		}
	}
	return !w.disk.Down()
}

// ends: one of those that live, by this call.
func (w *store) ends(d *rand.Rand, call func(tx int) error) {
	if len(w.live) == 0 {
		return
	}
	k := d.IntN(len(w.live))
	if err := call(w.live[k]); err != nil && !w.disk.Down() {
		w.t.Fatal(err)
	}
	w.live = slices.Delete(w.live, k, k+1)
}

// clean: P22.5, of the image as it is now.
func (w *store) clean(when string) {
	w.t.Helper()
	if ok, e := audit.Clean(w.disk.Image()); !ok || e != api.OK {
		r, _ := audit.Look(w.disk.Image())
		w.t.Fatalf("P22.5: %s: Clean = %v, %d; %v", when, ok, e, r)
	}
}

// settled: of the records of the image as it is now.
func (w *store) settled() []api.Counter {
	w.t.Helper()
	r, e := audit.Look(w.disk.Image())
	list, f := audit.Settled(r.Records)
	if e != api.OK || f != api.OK {
		w.t.Fatalf("P22.6: Look answers %d, Settled of %v %d", e, r.Records, f)
	}
	return list
}

// trap: a changing call at which the disk gives up, and what it loses.
type trap struct {
	step int
	loss api.Loss
}

// back: the disk is up again and the store is opened, within which it gives up at these traps; P22.5 and P22.6 all the way.
func (w *store) back(traps ...trap) {
	w.t.Helper()
	w.live = nil
	want := w.settled()
	w.clean("behind a crash")
	for _, tr := range append(traps, trap{}) {
		if e := w.disk.Up(); e != api.OK {
			w.t.Fatal(e)
		}
		w.disk.Arm(tr.step, tr.loss)
		s, err := engine.Open(w.disk)
		w.clean("behind a restart")
		if got := w.settled(); !slices.Equal(got, want) {
			w.t.Fatalf("P22.6: Settled tells %v of a restarted store's records, %v of those ahead of it", got, want)
		}
		w.Engine = s
		if err == nil {
			w.disk.Arm(0, api.Loss{})
			break
		}
	}
	if got, err := w.Counters(); err != nil || !slices.Equal(got, want) {
		w.t.Fatalf("P22.6: Settled tells %v, the store that is opened has %v, %v", want, got, err)
	}
}

func drawnLoss(d *rand.Rand) api.Loss {
	return api.Loss{Keep: []uint64{[]uint64{0, 1, 1<<64 - 1, d.Uint64()}[d.IntN(4)]}, Torn: d.IntN(8) - 2, Offset: []int{0, 1, 5, 511, 512, d.IntN(512)}[d.IntN(6)]}
}

// pastOf: the image of a store with a drawn past, at a drawn moment of its life.
func pastOf(t *testing.T, d *rand.Rand) []byte {
	w := newStore(t, storeShape)
	for range 4 {
		w.disk.Arm(1+d.IntN(60), drawnLoss(d))
		for range 25 {
			if !w.step(d, 9) {
				break
			}
		}
		if !w.disk.Down() && d.IntN(2) == 0 {
			break
		}
		if !w.disk.Down() {
			w.disk.Crash(drawnLoss(d))
		}
		if d.IntN(3) == 0 {
			break
		}
		w.back()
	}
	return w.disk.Image()
}

// TestAlwaysClean: drawn lives, with crashes, within restarts too.
func TestAlwaysClean(t *testing.T) {
	t.Parallel()
	crashes, finish, back := 0, 0, 0
	for run := range 100 {
		d := drawn(run)
		w := newStore(t, api.Shape{Pages: 4 + run%2, Log: 150, Frames: 2 + run%2})
		ids := []int{5, 70}[run%2]
		for range 8 {
			w.disk.Arm(1+d.IntN(60), drawnLoss(d))
			for range 1 + d.IntN(40) {
				if !w.step(d, ids) {
					break
				}
				w.clean("within its life")
			}
			if !w.disk.Down() {
				w.disk.Crash(drawnLoss(d))
			}
			crashes++
			if r, _ := audit.Look(w.disk.Image()); r.Finish {
				finish++
			}
			traps := []trap{{1 + d.IntN(12), drawnLoss(d)}, {1 + d.IntN(20), drawnLoss(d)}}[:d.IntN(3)]
			w.back(traps...)
			back += len(traps)
		}
	}
	if crashes < 800 || finish < 40 || back < 500 {
		t.Errorf("a poor draw: %d crashes, %d with a twin to finish, %d traps", crashes, finish, back)
	}
}

// TestEveryMoment: one life, which the disk ends at each of its changing calls, with and without a loss.
func TestEveryMoment(t *testing.T) {
	t.Parallel()
	filled := newStore(t, api.Shape{Pages: 4, Log: 150, Frames: 2})
	for id := 1; id <= 36; id++ { // the first page is full, and the pool can't hold all
		if err := filled.Create(counter(id, id%3+1, -99, 99, int64(id))); err != nil {
			t.Fatal(err)
		}
	}
	image := filled.disk.Image()
	life := func(n int, loss api.Loss) *store {
		w, d := &store{t: t}, drawn(7)
		w.disk, _ = sectors.Load(image)
		var err error
		if w.Engine, err = engine.Open(w.disk); err != nil {
			t.Fatal(err)
		}
		w.disk.Arm(n, loss)
		for range 150 {
			if !w.step(d, 40) {
				break
			}
		}
		return w
	}
	calls := life(0, api.Loss{}).disk.Calls()
	if calls < 100 {
		t.Fatalf("a poor life: %d changing calls", calls)
	}
	downs := 0
	for n := 1; n <= calls; n++ {
		for k := range 4 {
			loss := []api.Loss{{Torn: -1}, {Keep: []uint64{1<<64 - 1}}, {Keep: []uint64{uint64(n)}, Torn: 1, Offset: 511}, {Torn: 0, Offset: 7}}[k]
			w := life(n, loss)
			if !w.disk.Down() {
				continue
			}
			downs++
			w.back(trap{1 + n%9, loss})
		}
	}
	if downs < 300 {
		t.Errorf("a poor life: the disk has given up %d times", downs)
	}
}

// TestOfAStoreThatRuns: when nobody lives and all is forced, the records come to the store's counters, and those of the pages to the same behind flushes.
func TestOfAStoreThatRuns(t *testing.T) {
	rounds := 0
	for run := range 60 {
		d := drawn(500 + run)
		w := newStore(t, api.Shape{Pages: 4, Log: 300, Frames: 2})
		for range 60 {
			w.step(d, 9)
		}
		for len(w.live) > 0 {
			w.ends(d, w.Commit)
		}
		if w.Checkpoint() != nil {
			continue
		}
		for n := range 4 {
			w.Flush(n)
		}
		rounds++
		want, err := w.Counters()
		r, e := audit.Look(w.disk.Image())
		if err != nil || e != api.OK || !slices.Equal(r.Counters, want) || !slices.Equal(w.settled(), want) || r.Point != len(r.Records) || r.Records[r.Point-1].Kind != api.Checkpoint {
			t.Fatalf("P22.2, P22.3: Look = %v, %d; the store has %v, %v", r, e, want, err)
		}
		for _, g := range r.Groups {
			if sum, err := w.Sum(g.ID); err != nil || sum != g.Sum {
				t.Fatalf("P22.2: group %d has %d, the store says %d, %v", g.ID, g.Sum, sum, err)
			}
		}
		w.clean("behind flushes")
	}
	if rounds < 40 {
		t.Errorf("a poor draw: %d rounds", rounds)
	}
}
