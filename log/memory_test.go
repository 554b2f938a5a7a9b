package log_test

import (
	"slices"
	"testing"

	"quota/api"
	"quota/log"
)

// full: a checkpoint whose lists have spare room, of which all is known.
func full() (r api.Record, live []api.Live, dirty []api.Dirty) {
	live = []api.Live{{Tx: 90}, {Tx: 3, Last: 1, Committed: true}, {Tx: 5, Last: 2}, {Tx: 91}, {Tx: 92}}
	dirty = []api.Dirty{{Page: 50}, {Page: 1, Since: 2}, {Page: 2, Since: 1}, {Page: 51}, {Page: 52}}
	return api.Record{Kind: api.Checkpoint, Points: api.Points{Next: 6, Live: live[1:3:5], Dirty: dirty[1:3:5]}}, live, dirty
}

func withFull(t *testing.T) (*log.Log, []api.Live, []api.Dirty) {
	t.Helper()
	r, live, dirty := full()
	l := opened(t, made(t, 9), 0, 9)
	appendAll(t, l, []api.Record{begin(3), begin(5), r})
	return l, live, dirty
}

func TestNothingHandedInIsChangedOrKept(t *testing.T) {
	l, live, dirty := withFull(t)
	want, wasLive, wasDirty := full()
	if !slices.Equal(live, wasLive) || !slices.Equal(dirty, wasDirty) {
		t.Errorf("P6.1: a record that was handed in is changed: %v, %v", live, dirty)
	}
	clear(live)
	clear(dirty)
	want.LSN = 3
	wantGet(t, "P6.1: the log's record changes with what was handed in", l, 3, want, api.OK)
	wantForce(t, "P6.4", l, 3, api.OK)
	wantGet(t, "P6.1: the log's record changes with what was handed in", l, 3, want, api.OK)
}

func TestWhatIsHandedOutIsNew(t *testing.T) {
	l, _, _ := withFull(t)
	want, _, _ := full()
	want.LSN = 3
	one, _ := l.Get(3)
	two, _ := l.Get(3)
	clear(one.Points.Live[:cap(one.Points.Live)])
	clear(one.Points.Dirty[:cap(one.Points.Dirty)])
	if !same(two, want) {
		t.Errorf("P6.1: two answers of Get share memory: %+v", two)
	}
	wantGet(t, "P6.1: the log keeps what it has handed out", l, 3, want, api.OK)
}

// TestFaultsAreNew: an error is handed out too.
func TestFaultsAreNew(t *testing.T) {
	d := made(t, 2)
	l := opened(t, d, 0, 2)
	l.Append(begin(1))
	d.Crash(api.Loss{})
	first := l.Force(1)
	for range 3 {
		for _, err := range []error{first, l.Err(), l.Force(0)} {
			wantErr(t, "P6.5", "Force", err, 0, api.ErrDown)
			if f, ok := err.(*api.Fault); ok {
				f.Call, f.At, f.Err = "changed", 9, api.ErrFull
			}
		}
		first = l.Err()
	}
}

// TestLogsOfOneDisk: sectors beside one another are nobody else's.
func TestLogsOfOneDisk(t *testing.T) {
	d := made(t, 8)
	a, b := opened(t, d, 0, 4), opened(t, d, 4, 4)
	appendAll(t, a, []api.Record{begin(1), begin(2)})
	appendAll(t, b, []api.Record{begin(3)})
	wantForce(t, "P6.4", a, 2, api.OK)
	wantForce(t, "P6.4", b, 1, api.OK)
	wantRecords(t, "P6.9", opened(t, d, 0, 4), []api.Record{begin(1), begin(2)}, 4)
	wantRecords(t, "P6.9", opened(t, d, 4, 4), []api.Record{begin(3)}, 4)
	d.Crash(api.Loss{})
	a.Append(begin(4))
	wantForce(t, "P6.4", a, 3, api.ErrDown)
	wantErr(t, "P6.5: the other has not met it", "Err", b.Err(), 0, api.OK)
}
