package log_test

import (
	"bytes"
	"math"
	"reflect"
	"testing"

	"quota/api"
	"quota/log"
	"quota/sectors"
)

func made(t *testing.T, n int) *sectors.Device {
	t.Helper()
	d, e := sectors.New(n)
	if e != api.OK {
		t.Fatalf("New(%d) = %d", n, e)
	}
	return d
}

func loaded(t *testing.T, image []byte) *sectors.Device {
	t.Helper()
	d, e := sectors.Load(image)
	if e != api.OK {
		t.Fatalf("Load of %d bytes = %d", len(image), e)
	}
	return d
}

func opened(t *testing.T, d *sectors.Device, first, count int) *log.Log {
	t.Helper()
	l, err := log.Open(d, first, count)
	if l == nil || err != nil {
		t.Fatalf("P6.2: Open(%d, %d) = %v, want a log", first, count, err)
	}
	return l
}

// wantErr: nil, or a Fault of the call at that place around the number itself.
func wantErr(t *testing.T, what, call string, err error, at int, e api.Errno) {
	t.Helper()
	if e == api.OK {
		if err != nil {
			t.Errorf("%s: %s = %v, want nil", what, call, err)
		}
		return
	}
	f, ok := err.(*api.Fault)
	if !ok || f == nil || *f != (api.Fault{Call: call, At: at, Err: e}) {
		t.Errorf("%s: %s = %v, want a Fault of %s at %d around %d", what, call, err, call, at, e)
	}
}

func wantNoOpen(t *testing.T, what string, d *sectors.Device, first, count, at int, e api.Errno) {
	t.Helper()
	l, err := log.Open(d, first, count)
	wantErr(t, what, "Open", err, at, e)
	if l != nil {
		t.Errorf("%s: a log beside an error", what)
	}
}

func wantNumbers(t *testing.T, what string, l *log.Log, forced, last, free int) {
	t.Helper()
	if l.Forced() != forced || l.Last() != last || l.Free() != free {
		t.Errorf("%s: Forced %d, Last %d, Free %d, want %d, %d, %d", what, l.Forced(), l.Last(), l.Free(), forced, last, free)
	}
}

func wantCalls(t *testing.T, what string, d *sectors.Device, want int) {
	t.Helper()
	if d.Calls() != want {
		t.Errorf("%s: %d changing calls, want %d", what, d.Calls(), want)
	}
}

func wantAppend(t *testing.T, what string, l *log.Log, r api.Record, lsn int, e api.Errno) {
	t.Helper()
	if n, got := l.Append(r); n != lsn || got != e {
		t.Errorf("%s: Append(%+v) = %d, %d, want %d, %d", what, r, n, got, lsn, e)
	}
}

func wantForce(t *testing.T, what string, l *log.Log, lsn int, e api.Errno) {
	t.Helper()
	wantErr(t, what, "Force", l.Force(lsn), 0, e)
}

func wantGet(t *testing.T, what string, l *log.Log, lsn int, want api.Record, e api.Errno) {
	t.Helper()
	if r, got := l.Get(lsn); got != e || !same(r, want) {
		t.Errorf("%s: Get(%d) = %+v, %d, want %+v, %d", what, lsn, r, got, want, e)
	}
}

// wantRecords: all that the log tells of its records, which are forced.
func wantRecords(t *testing.T, what string, l *log.Log, want []api.Record, count int) {
	t.Helper()
	wantNumbers(t, what, l, len(want), len(want), count-len(want))
	for i, r := range want {
		r.LSN = i + 1
		wantGet(t, what, l, i+1, r, api.OK)
	}
	wantErr(t, what, "Err", l.Err(), 0, api.OK)
}

// same: a list that is nil and one that is empty are one.
func same(a, b api.Record) bool {
	for _, r := range []*api.Record{&a, &b} {
		if len(r.Points.Live) == 0 {
			r.Points.Live = nil
		}
		if len(r.Points.Dirty) == 0 {
			r.Points.Dirty = nil
		}
	}
	return reflect.DeepEqual(a, b)
}

func begin(tx int) api.Record        { return api.Record{Kind: api.Begin, Tx: tx} }
func commit(tx, prev int) api.Record { return api.Record{Kind: api.Commit, Tx: tx, Prev: prev} }
func end(tx, prev int) api.Record    { return api.Record{Kind: api.End, Tx: tx, Prev: prev} }

// kinds: a record of each kind, so that it may be appended behind three others.
func kinds() []api.Record {
	where, sums := api.Slot{Page: 3, Index: 30}, api.Slot{Page: 63, Index: 83}
	return []api.Record{
		begin(1),
		{Kind: api.Create, Where: where, Sums: sums, Counter: api.Counter{ID: 7, Group: 1 << 20, Bounds: api.Range{Lo: math.MinInt64, Hi: math.MaxInt64}, Value: -5}},
		{Kind: api.Add, Tx: 1, Prev: 1, Where: where, Sums: sums, Counter: api.Counter{ID: 7}, Delta: math.MinInt64},
		{Kind: api.Undo, Tx: 1, Prev: 3, Where: where, Sums: sums, Counter: api.Counter{ID: 7}, Delta: 300},
		commit(1, 3),
		{Kind: api.Abort, Tx: api.MaxTx, Prev: 2},
		end(1, 3),
		{Kind: api.Checkpoint, Points: api.Points{Next: 9}},
		{Kind: api.Checkpoint, Points: api.Points{Next: 9, Live: []api.Live{{Tx: 3, Last: 2, Committed: true}, {Tx: 8, Last: 1, Undoing: true}}, Dirty: []api.Dirty{{Page: 0, Since: 3}, {Page: 63, Since: 1}}}},
		great(9),
	}
}

// great: a checkpoint with as many entries as one may hold.
func great(lsn int) api.Record {
	r := api.Record{Kind: api.Checkpoint, Points: api.Points{Next: api.MaxTx + 1}}
	for i := range api.MaxLive {
		r.Points.Live = append(r.Points.Live, api.Live{Tx: api.MaxTx - api.MaxLive + i + 1, Last: lsn - 1, Undoing: true})
	}
	for i := range api.MaxFrames {
		r.Points.Dirty = append(r.Points.Dirty, api.Dirty{Page: api.MaxPages - api.MaxFrames + i, Since: lsn - 1})
	}
	return r
}

func TestExamples(t *testing.T) {
	d := made(t, 8)
	wantNoOpen(t, "P6.2: no disk", nil, 2, 6, 0, api.ErrHandle)
	for _, c := range [][2]int{{2, 7}, {-1, 1}, {2, 0}} {
		wantNoOpen(t, "P6.2", d, c[0], c[1], 0, api.ErrPlace)
	}
	l := opened(t, d, 2, 6)
	wantNumbers(t, "P6.2: zeros", l, 0, 0, 6)
	wantAppend(t, "P6.3", l, begin(1), 1, api.OK)
	wantAppend(t, "P6.3", l, commit(1, 1), 2, api.OK)
	wantNumbers(t, "P6.5", l, 0, 2, 4)
	wantCalls(t, "P6.3", d, 0)
	wantForce(t, "P6.4", l, 1, api.OK)
	wantNumbers(t, "P6.5", l, 1, 2, 4)
	wantCalls(t, "P6.4", d, 2)
	wantForce(t, "P6.4", l, 1, api.OK)
	wantForce(t, "P6.4", l, 3, api.ErrPlace)
	wantForce(t, "P6.4", l, -1, api.ErrPlace)
	wantCalls(t, "P6.4", d, 2)
	wantForce(t, "P6.4", l, 2, api.OK)
	wantNumbers(t, "P6.5", l, 2, 2, 4)
	wantCalls(t, "P6.4", d, 4)
	wantGet(t, "P6.6", l, 0, api.Record{}, api.ErrPlace)
	wantGet(t, "P6.6", l, 2, api.Record{LSN: 2, Kind: api.Commit, Tx: 1, Prev: 1}, api.OK)
	wantGet(t, "P6.6", l, 3, api.Record{}, api.ErrPlace)
	wantAppend(t, "P6.3", l, commit(1, 3), 0, api.ErrField)
	wantAppend(t, "P6.3", l, end(1, 2), 3, api.OK)
	d.Crash(api.Loss{Torn: -1})
	d.Up()
	l = opened(t, d, 2, 6)
	wantRecords(t, "P6.7", l, []api.Record{begin(1), commit(1, 1)}, 6)
	wantCalls(t, "P6.8", d, 4)
}

// TestExamplesOfCrashes: three records more, of which the disk leaves some.
func TestExamplesOfCrashes(t *testing.T) {
	had := []api.Record{begin(1), commit(1, 1)}
	more := []api.Record{begin(2), begin(3), begin(4)}
	for _, c := range []struct {
		loss         api.Loss
		there, calls int
	}{
		{api.Loss{Keep: []uint64{5}, Torn: -1}, 3, 2},
		{api.Loss{Keep: []uint64{4}, Torn: 0, Offset: 511}, 2, 3},
		{api.Loss{Keep: []uint64{4}, Torn: 0, Offset: 512}, 3, 2},
		{api.Loss{Torn: -1}, 2, 0},
		{api.Loss{Keep: []uint64{7}, Torn: -1}, 5, 0},
	} {
		d := made(t, 8)
		l := opened(t, d, 2, 6)
		appendAll(t, l, had)
		wantForce(t, "P6.4", l, 2, api.OK)
		appendAll(t, l, more)
		d.Arm(4, c.loss)
		wantForce(t, "P6.4: it gives up at the Sync", l, 5, api.ErrDown)
		d.Up()
		was := d.Calls()
		l = opened(t, d, 2, 6)
		wantCalls(t, "P6.2: what stands behind the end is wiped", d, was+c.calls)
		wantRecords(t, "P6.7", l, append(had[:2:2], more...)[:c.there], 6)
		for s := c.there; s < 6; s++ {
			wantAppend(t, "P6.3", l, begin(9), s+1, api.OK)
		}
		wantNumbers(t, "P6.5", l, c.there, 6, 0)
		wantAppend(t, "P6.3: full", l, begin(9), 0, api.ErrFull)
	}
}

func appendAll(t *testing.T, l *log.Log, records []api.Record) {
	t.Helper()
	for _, r := range records {
		wantAppend(t, "P6.3", l, r, l.Last()+1, api.OK)
	}
}

func TestWhereALogMayLie(t *testing.T) {
	d := made(t, 8)
	d.Write(7, bytes.Repeat([]byte{7}, 512))
	ends := []int{math.MinInt, math.MinInt + 1, -1 << 62, -9, -8, -1, 0, 1, 2, 7, 8, 9, 1 << 62, 1<<62 + 1, math.MaxInt - 7, math.MaxInt}
	for _, first := range ends {
		for _, count := range ends {
			if first >= 0 && first <= 7 && count >= 1 && count <= 8-first {
				continue
			}
			wantNoOpen(t, "P6.2", d, first, count, 0, api.ErrPlace)
		}
	}
	wantCalls(t, "P6.2: what is refused changes nothing", d, 1)
	for first := range 8 {
		for count := 1; first+count <= 8; count++ {
			e := loaded(t, make([]byte, 8*512))
			wantNumbers(t, "P6.2", opened(t, e, first, count), 0, 0, count)
			wantCalls(t, "P6.2: zeros", e, 0)
		}
	}
	d.Crash(api.Loss{})
	wantNoOpen(t, "P6.2: the place ahead of the disk", d, 0, 9, 0, api.ErrPlace)
	wantNoOpen(t, "P6.2: it is down", d, 0, 8, 0, api.ErrDown)
	wantNoOpen(t, "P6.2: no disk, ahead of the place", nil, -1, -1, 0, api.ErrHandle)
}

// TestOtherSectors: a log keeps to its own.
func TestOtherSectors(t *testing.T) {
	image := bytes.Repeat([]byte{0x6c}, 9*512)
	for first := range 7 {
		for count := 1; first+count <= 7; count++ {
			d := loaded(t, image)
			l := opened(t, d, first, count)
			wantCalls(t, "P6.2: each sector is wiped, then a Sync", d, count+1)
			for range count {
				l.Append(begin(5))
			}
			wantForce(t, "P6.4", l, count, api.OK)
			want := bytes.Clone(image)
			for i := range count {
				copy(want[512*(first+i):], sectorOf(i+1, []byte{1, 5}))
			}
			if !bytes.Equal(d.Image(), want) {
				t.Errorf("P6.4: a log of %d sectors from %d on writes elsewhere", count, first)
			}
		}
	}
}

func TestAppend(t *testing.T) {
	d := made(t, 3)
	l := opened(t, d, 0, 3)
	for _, lsn := range []int{0, -1, 1, 2, 9, math.MinInt, math.MaxInt} {
		r := begin(5)
		r.LSN = lsn
		m := opened(t, d, 0, 3)
		wantAppend(t, "P6.3: its LSN is not looked at", m, r, 1, api.OK)
		wantGet(t, "P6.3", m, 1, api.Record{LSN: 1, Kind: api.Begin, Tx: 5}, api.OK)
	}
	wantAppend(t, "P6.3: none is ahead of it", l, commit(1, 1), 0, api.ErrField)
	wantAppend(t, "P6.3", l, api.Record{LSN: 99, Kind: api.Commit, Tx: 1, Prev: 50}, 0, api.ErrField)
	wantAppend(t, "P6.3", l, api.Record{Kind: 9}, 0, api.ErrKind)
	wantNumbers(t, "P6.3: what is refused changes nothing", l, 0, 0, 3)
	wantAppend(t, "P6.3", l, begin(1), 1, api.OK)
	wantAppend(t, "P6.3", l, commit(1, 2), 0, api.ErrField)
	wantAppend(t, "P6.3", l, commit(1, 1), 2, api.OK)
	wantAppend(t, "P6.3: a Since beyond", l, api.Record{Kind: api.Checkpoint, Points: api.Points{Next: 1, Dirty: []api.Dirty{{Page: 1, Since: 3}}}}, 0, api.ErrField)
	wantAppend(t, "P6.3", l, api.Record{Kind: api.Checkpoint, Points: api.Points{Next: 1, Dirty: []api.Dirty{{Page: 1, Since: 2}}}}, 3, api.OK)
	wantAppend(t, "P6.3: full", l, begin(1), 0, api.ErrFull)
	wantAppend(t, "P6.3: the record ahead of the room", l, begin(0), 0, api.ErrField)
	wantAppend(t, "P6.3: the record ahead of the room", l, api.Record{}, 0, api.ErrKind)
	wantAppend(t, "P6.3: the record ahead of the room", l, commit(1, 4), 0, api.ErrField)
	wantNumbers(t, "P6.3: what is refused changes nothing", l, 0, 3, 0)
	wantCalls(t, "P6.3", d, 0)
	d.Crash(api.Loss{})
	wantNumbers(t, "P6.5: a disk that is not asked", l, 0, 3, 0)
	wantGet(t, "P6.6: a disk that is not asked", l, 1, api.Record{LSN: 1, Kind: api.Begin, Tx: 1}, api.OK)
	wantAppend(t, "P6.3: a disk that is not asked", l, begin(1), 0, api.ErrFull)
	wantForce(t, "P6.4: a disk that is not asked", l, 0, api.OK)
	wantErr(t, "P6.5: a disk that was not asked", "Err", l.Err(), 0, api.OK)
}

func TestForcePlaces(t *testing.T) {
	d := made(t, 9)
	l := opened(t, d, 0, 9)
	wantForce(t, "P6.4: no record", l, 0, api.OK)
	wantForce(t, "P6.4: no record", l, 1, api.ErrPlace)
	for i := range 7 {
		l.Append(begin(i + 1))
	}
	for _, n := range []int{math.MinInt, -2, -1, 8, 9, 10, math.MaxInt} {
		wantForce(t, "P6.4", l, n, api.ErrPlace)
	}
	wantCalls(t, "P6.4", d, 0)
	calls := 0
	for _, n := range []int{0, 2, 1, 0, 2, 3, 7, 7, 5, 0} {
		more := n - l.Forced()
		wantForce(t, "P6.4", l, n, api.OK)
		if more > 0 {
			calls += more + 1
		}
		wantCalls(t, "P6.4: a Write of each record and a Sync, or nothing", d, calls)
		if more > 0 && l.Forced() != n || more <= 0 && l.Forced() != n-more {
			t.Errorf("P6.4: behind Force(%d): Forced %d", n, l.Forced())
		}
		if len(d.Cache()) != 0 {
			t.Errorf("P6.4: behind Force(%d) something waits in the cache", n)
		}
	}
	for _, n := range []int{math.MinInt, -1, 0, 8, math.MaxInt} {
		wantGet(t, "P6.6", l, n, api.Record{}, api.ErrPlace)
	}
}

// TestEnded: at each of Force's calls, and ahead of it.
func TestEnded(t *testing.T) {
	for step := range 5 {
		d := made(t, 8)
		l := opened(t, d, 1, 6)
		appendAll(t, l, []api.Record{begin(1), begin(2), begin(3), begin(4), begin(5)})
		wantForce(t, "P6.4", l, 2, api.OK)
		d.Arm(step, api.Loss{Torn: -1})
		if step == 0 {
			d.Crash(api.Loss{})
		}
		wantForce(t, "P6.4: a number below, of a disk that is not asked", l, 1, api.OK)
		wantForce(t, "P6.4: no such record, of a disk that is not asked", l, 6, api.ErrPlace)
		wantErr(t, "P6.5", "Err", l.Err(), 0, api.OK)
		wantForce(t, "P6.4: it gives up", l, 5, api.ErrDown)
		wantCalls(t, "P6.4: behind the call that met it there is none", d, 3+step)
		for range 2 {
			wantAppend(t, "P6.3: ended, ahead of the record", l, api.Record{}, 0, api.ErrDown)
			wantAppend(t, "P6.3: ended", l, begin(1), 0, api.ErrDown)
			wantGet(t, "P6.6: ended", l, 1, api.Record{}, api.ErrDown)
			wantGet(t, "P6.6: ended, ahead of the place", l, 9, api.Record{}, api.ErrDown)
			wantForce(t, "P6.4: ended", l, 0, api.ErrDown)
			wantForce(t, "P6.4: ended", l, 5, api.ErrDown)
			wantForce(t, "P6.4: ended, ahead of the place", l, 9, api.ErrDown)
			wantErr(t, "P6.5: ended", "Force", l.Err(), 0, api.ErrDown)
			wantNumbers(t, "P6.5: ended", l, 2, 5, 1)
			wantCalls(t, "P6.5: ended", d, 3+step)
			d.Up() // it is ended all the same
		}
	}
}

// TestForceBehindAnUp: a log that has not met the crash has all its records still.
func TestForceBehindAnUp(t *testing.T) {
	d := made(t, 4)
	l := opened(t, d, 0, 4)
	appendAll(t, l, []api.Record{begin(1), begin(2)})
	wantForce(t, "P6.4", l, 1, api.OK)
	d.Crash(api.Loss{})
	d.Up()
	wantForce(t, "P6.4", l, 2, api.OK)
	wantRecords(t, "P6.9", opened(t, loaded(t, d.Image()), 0, 4), []api.Record{begin(1), begin(2)}, 4)
}
