package engine_test

import (
	"slices"
	"testing"

	"quota/api"
)

// cut: a store whose disk has given up without a call of the engine; the pages 0 and 3 are held, 3 is clean; transaction 1 holds counter 1.
func cut(t *testing.T) *store {
	t.Helper()
	w := made(t, small)
	w.run(create(1, 1, 0, 10, 5), begin(), begin(), add(1, 1, 1), flush(3))
	if e := w.disk.Crash(api.Loss{}); e != api.OK {
		t.Fatalf("Crash: %d", e)
	}
	return w
}

// TestWhatAsksNothingOfTheDisk: such a call is not ended by a disk that has given up, nor is the engine.
func TestWhatAsksNothingOfTheDisk(t *testing.T) {
	w := cut(t)
	w.rows(row{begin(), "0 3 0"}, row{read(1), "0 5 6"}, row{add(2, 1, 1), "0 5 7"}, row{sum(1), "0 7 0"}, row{list(), "0 1 0 1:7"}, row{abort(1), "0 0 0"})
	w.rows(row{commit(9), "130 0 0"}, row{evict(1), "101 0 0"}, row{flush(4), "4 0 0"}, row{create(1, 1, 0, 1, 1), "121 0 0"}, row{sum(2), "122 0 0"})
	if live, err := w.Live(); !slices.Equal(live, []int{2, 3}) || err != nil {
		t.Errorf("DOC.md, The engine: Live = %v, %v", live, err)
	}
	if held, err := w.Holdings(2); !slices.Equal(held, []api.Holding{{Tx: 2, Counter: 1, Delta: 1}}) || err != nil {
		t.Errorf("DOC.md, The engine: Holdings = %v, %v", held, err)
	}
	w.wantFree(30-9, 2*2+1)
}

// TestWhatAsksTheDisk: each call that must write or read there finds it down, and ends the engine.
func TestWhatAsksTheDisk(t *testing.T) {
	for _, s := range []api.Step{create(2, 1, 0, 1, 0), commit(1), commit(2), checkpoint(), evict(0), flush(0)} {
		w := cut(t)
		w.want(s, "40 0 0")
		w.ended()
	}
	for _, s := range []api.Step{add(1, 1, 1), sum(1), abort(1), list()} {
		w := made(t, small)
		w.run(create(1, 1, 0, 10, 5), begin(), add(1, 1, 1), evict(0), evict(3))
		w.disk.Crash(api.Loss{})
		w.rows(row{read(1), "0 5 6"}, row{begin(), "0 2 0"}, row{evict(0), "101 0 0"}, row{flush(3), "101 0 0"})
		w.want(s, "40 0 0")
		w.ended()
	}
}

// TestEndedForGood: though the disk runs again; what it has is opened anew.
func TestEndedForGood(t *testing.T) {
	for _, s := range []api.Step{create(2, 1, 0, 1, 0), commit(1), checkpoint(), evict(0), flush(0)} {
		w := cut(t)
		w.want(s, "40 0 0")
		w.disk.Up()
		w.ended()
		w = opened(t, w.disk)
		w.want(list(), "0 1 0 1:5")
	}
}

// TestOnlyItsOwnDisk: engines know nothing of one another.
func TestOnlyItsOwnDisk(t *testing.T) {
	a, b := cut(t), made(t, small)
	b.run(create(1, 2, -5, 5, 1), begin())
	a.want(commit(1), "40 0 0")
	b.rows(row{add(1, 1, 2), "0 1 3"}, row{commit(1), "0 0 0"}, row{list(), "0 1 0 1:3"}, row{sum(1), "122 0 0"})
	a.ended()
}
