package engine_test

import (
	"bytes"
	"reflect"
	"testing"

	"quota/api"
	"quota/engine"
	"quota/log"
	"quota/master"
	"quota/page"
	"quota/record"
	"quota/sectors"
)

func wantOpen(t *testing.T, what string, d *sectors.Device, want api.Errno) {
	t.Helper()
	e, err := engine.Open(d)
	if (e == nil) != (want != api.OK) || number(t, "Open", err) != want {
		t.Errorf("P20.1: Open of %s = %v, %v, want error %d", what, e, err, want)
	}
}

func TestOpensErrors(t *testing.T) {
	wantOpen(t, "nothing", nil, api.ErrHandle)
	for _, n := range []int{1, 2, 5, 43, 8192} {
		wantOpen(t, "zeros", device(t, n), api.ErrMaster)
	}
	image := old(t, small).disk.Image()
	wantOpen(t, "a store", loaded(t, image), api.OK)
	wantOpen(t, "a store cut off", loaded(t, image[512:]), api.ErrMaster)
	wantOpen(t, "a store cut off", loaded(t, image[:len(image)-512]), api.ErrMaster)
	wantOpen(t, "a store with a sector more", loaded(t, append(bytes.Clone(image), make([]byte, 512)...)), api.ErrMaster)
	d := loaded(t, image)
	d.Crash(api.Loss{})
	wantOpen(t, "a store that is down", d, api.ErrDown)
	d = device(t, 43)
	d.Crash(api.Loss{})
	wantOpen(t, "zeros that are down", d, api.ErrDown)
}

// spoilt: a disk that others have written to.
type spoilt struct {
	t *testing.T
	d *sectors.Device
}

// spoiling: a store with the counters 1 and 2 of group 3, which lie in pages 0 and 3, all of it on the disk; transaction 1 lives.
func spoiling(t *testing.T) spoilt {
	t.Helper()
	w := made(t, small)
	w.run(create(1, 3, 0, 10, 5), create(2, 3, 0, 10, 6), begin(), add(1, 1, 1), flush(0), flush(3), checkpoint())
	return spoilt{t, loaded(t, w.disk.Image())}
}

func (x spoilt) write(i int, b []byte) {
	x.t.Helper()
	if x.d.Write(i, b) != api.OK || x.d.Sync() != api.OK {
		x.t.Fatal("the disk was to run")
	}
}

// record: more of the log, as it is; record 6 comes next.
func (x spoilt) record(lsn int, r api.Record) {
	x.t.Helper()
	b, e := record.Encode(r)
	if e != api.OK {
		x.t.Fatalf("no record %v: %d", r, e)
	}
	x.bytes(lsn, b)
}

func (x spoilt) bytes(lsn int, b []byte) {
	s := make([]byte, 512)
	copy(s, []byte{0x6c, byte(lsn), 0, 0, 0, byte(len(b)), 0})
	copy(s[7:], b)
	s[511] = 0xa5
	x.write(5+8+lsn-1, s)
}

func (x spoilt) page(p page.Page) {
	x.t.Helper()
	b, e := page.Encode(p)
	if e != api.OK {
		x.t.Fatalf("no page %v: %d", p, e)
	}
	x.write(5+2*p.Number, b[:512])
	x.write(6+2*p.Number, b[512:])
}

func (x spoilt) point(lsn int) {
	x.t.Helper()
	if err := master.Point(x.d, lsn); err != nil {
		x.t.Fatal(err)
	}
}

// TestOpensErrorsOfTheLayersBelow: each step of a restart, met with what it doesn't take.
func TestOpensErrorsOfTheLayersBelow(t *testing.T) {
	one, two := counter(1, 3, 0, 10, 6), counter(2, 3, 0, 10, 6)
	for _, c := range []struct {
		what  string
		spoil func(x spoilt)
		e     api.Errno
	}{
		{"nothing", func(x spoilt) {}, api.OK},
		{"a marker that makes no sense", func(x spoilt) { x.write(2, append(make([]byte, 511), 1)) }, api.ErrTwin},
		{"a record that is none", func(x spoilt) { x.bytes(6, []byte{9}) }, api.ErrLog},
		{"a commit of nobody", func(x spoilt) { x.record(6, api.Record{Kind: api.Commit, Tx: 9, Prev: 1}) }, api.ErrLog},
		{"a point that is no checkpoint", func(x spoilt) { x.point(3) }, api.ErrPlace},
		{"a point behind the log", func(x spoilt) { x.point(9) }, api.ErrPlace},
		{"a page whose checksum is wrong", func(x spoilt) {
			x.record(6, api.Record{Kind: api.Add, Tx: 1, Prev: 4, Sums: slot(3, 0), Delta: 1, Counter: api.Counter{ID: 1}})
			x.write(5, append([]byte{0x71, 1}, make([]byte, 510)...))
		}, api.ErrSum},
		{"a page that no step of the restart needs", func(x spoilt) {
			x.record(6, api.Record{Kind: api.Commit, Tx: 1, Prev: 4})
			x.write(5+2*3, append([]byte{0x71, 1}, make([]byte, 510)...))
		}, api.OK},
		{"an add to a slot that is not there", func(x spoilt) {
			x.record(6, api.Record{Kind: api.Add, Tx: 1, Prev: 4, Where: slot(1, 0), Sums: slot(3, 0), Delta: 1, Counter: api.Counter{ID: 1}})
		}, api.ErrSlot},
		{"an undo that takes back another net", func(x spoilt) {
			x.record(6, api.Record{Kind: api.Abort, Tx: 1, Prev: 4})
			x.record(7, api.Record{Kind: api.Undo, Tx: 1, Prev: 6, Sums: slot(3, 0), Delta: 2, Counter: api.Counter{ID: 1}})
		}, api.ErrLog},
		{"a value that is too great", func(x spoilt) {
			x.page(page.Page{LSN: 4, Counters: []api.Counter{counter(1, 3, 0, 99, 12), two}})
		}, api.ErrBounds},
		{"a value that is too great, taken back", func(x spoilt) {
			x.page(page.Page{LSN: 4, Counters: []api.Counter{counter(1, 3, 0, 99, 11), two}})
		}, api.OK},
		{"a page that has one counter", func(x spoilt) { x.page(page.Page{LSN: 4, Counters: []api.Counter{one}}) }, api.ErrSlot},
		{"a page that has another counter", func(x spoilt) {
			x.page(page.Page{LSN: 4, Counters: []api.Counter{one, counter(9, 3, 0, 10, 6)}})
		}, api.ErrSlot},
		{"a sum that is too small to be taken from", func(x spoilt) {
			x.page(page.Page{Number: 3, LSN: 4, Groups: []api.Group{{ID: 3, Sum: least}}})
		}, api.ErrOverflow},
		{"a counter that is there twice", func(x spoilt) {
			x.record(6, api.Record{Kind: api.Create, Where: slot(0, 2), Sums: slot(3, 0), Counter: one})
		}, api.ErrTwice},
	} {
		x := spoiling(t)
		c.spoil(x)
		wantOpen(t, c.what, x.d, c.e)
	}
}

// TestValuesAreThePages: a restart asks the pages, and not the log, how the counters stand.
func TestValuesAreThePages(t *testing.T) {
	x := spoiling(t)
	x.page(page.Page{LSN: 4, Counters: []api.Counter{counter(1, 3, 0, 10, 3), counter(2, 3, 0, 10, 9)}})
	w := opened(t, x.d)
	w.rows(row{list(), "0 2 0 1:2 2:9"}, row{read(1), "0 2 2"}, row{read(2), "0 9 9"})
}

// TestAllAtOnce: a sum that leaves 64 bits on the way from counter to counter, though all of it fits.
func TestAllAtOnce(t *testing.T) {
	w := made(t, small)
	w.run(create(3, 1, least, 0, -5), create(1, 1, 0, most, most), create(2, 1, 0, 9, 5))
	for range 2 {
		w = w.copied()
		w.rows(row{sum(1), "0 9223372036854775807 0"}, row{list(), "0 3 0 1:9223372036854775807 2:5 3:-5"})
		w.refused(create(4, 1, 0, 1, 1), api.ErrOverflow)
	}
}

// records: of the log that a disk has.
func records(t *testing.T, d *sectors.Device, s api.Shape) []api.Record {
	t.Helper()
	l, err := log.Open(loaded(t, d.Image()), 5+2*s.Pages, s.Log)
	if err != nil {
		t.Fatal(err)
	}
	var out []api.Record
	for lsn := 1; lsn <= l.Last(); lsn++ {
		r, e := l.Get(lsn)
		if e != api.OK {
			t.Fatalf("Get(%d): %d", lsn, e)
		}
		r.LSN = 0 // it is told by the place
		out = append(out, r)
	}
	return out
}

func wantRecords(t *testing.T, got []api.Record, want ...api.Record) {
	t.Helper()
	if len(got) != len(want) {
		t.Fatalf("P20.1: the log has %d records %v, want %d", len(got), got, len(want))
	}
	for k := range want {
		if !reflect.DeepEqual(got[k], want[k]) {
			t.Errorf("P20.1: record %d is %v, want %v", k+1, got[k], want[k])
		}
	}
}

func of(kind api.Kind, tx, prev int) api.Record { return api.Record{Kind: kind, Tx: tx, Prev: prev} }

func changed(kind api.Kind, tx, prev, id, index int, delta int64) api.Record {
	r := of(kind, tx, prev)
	r.Where, r.Sums, r.Delta, r.Counter.ID = slot(0, index), slot(3, 0), delta, id
	return r
}

// TestTheLog: which records come of which calls; refused ones leave none.
func TestTheLog(t *testing.T) {
	w := made(t, small)
	w.run(create(9, 2, -9, 9, 5), create(4, 2, -9, 9, 6), begin(), begin(), begin())
	w.run(add(1, 9, 3), add(2, 4, 1), add(2, 9, -2), add(2, 4, 1), add(3, 4, 0), checkpoint())
	w.refused(add(2, 4, 9), api.ErrBounds)
	w.refused(create(9, 2, 0, 1, 1), api.ErrTwice)
	w.run(abort(2), commit(1), flush(0))
	create9 := api.Record{Kind: api.Create, Sums: slot(3, 0), Counter: counter(9, 2, -9, 9, 5)}
	create4 := api.Record{Kind: api.Create, Where: slot(0, 1), Sums: slot(3, 0), Counter: counter(4, 2, -9, 9, 6)}
	point := api.Record{Kind: api.Checkpoint, Points: api.Points{
		Live:  []api.Live{{Tx: 1, Last: 6}, {Tx: 2, Last: 9}, {Tx: 3, Last: 10}},
		Dirty: []api.Dirty{{Page: 0, Since: 1}, {Page: 3, Since: 1}},
		Next:  4,
	}}
	want := []api.Record{
		create9, create4, of(api.Begin, 1, 0), of(api.Begin, 2, 0), of(api.Begin, 3, 0),
		changed(api.Add, 1, 3, 9, 0, 3), changed(api.Add, 2, 4, 4, 1, 1), changed(api.Add, 2, 7, 9, 0, -2), changed(api.Add, 2, 8, 4, 1, 1), changed(api.Add, 3, 5, 4, 1, 0),
		point, of(api.Abort, 2, 9), changed(api.Undo, 2, 12, 4, 1, 2), changed(api.Undo, 2, 13, 9, 0, -2), of(api.End, 2, 14), of(api.Commit, 1, 6),
	}
	wantRecords(t, records(t, w.disk, small), want...) // the end of 1 is not forced

	x := w.copied()
	if _, point, err := master.Open(w.disk); point != 11 || err != nil {
		t.Errorf("P20.1: the master points to %d, %v, want 11", point, err)
	}
	want = append(want, of(api.End, 1, 16), of(api.Abort, 3, 10), changed(api.Undo, 3, 18, 4, 1, 0), of(api.End, 3, 19))
	wantRecords(t, records(t, x.disk, small), want...)
	x.wantFree(30-20, 0)
	x.rows(row{list(), "0 2 0 4:6 9:8"}, row{begin(), "0 4 0"})
}

// TestARestartWithNothingToDo: it writes nothing at all.
func TestARestartWithNothingToDo(t *testing.T) {
	w := old(t, shaped(2, 20, 3)).copied()
	image := w.disk.Image()
	for range 3 {
		before := w.disk.Calls()
		w = opened(t, w.disk)
		if w.disk.Calls() != before || !bytes.Equal(w.disk.Image(), image) {
			t.Fatalf("P20.5: a restart behind a restart makes %d changing calls", w.disk.Calls()-before)
		}
		w.wantFree(20-15, 0)
		w.rows(row{list(), "0 2 0 " + oldCounters}, row{begin(), "0 3 0"})
	}
}

// TestNumbersGivenAgain: only where the record of the begin is lost.
func TestNumbersGivenAgain(t *testing.T) {
	w := made(t, small)
	w.run(begin(), begin())
	w.copied().want(begin(), "0 1 0")
	w.run(create(1, 1, 0, 9, 5))
	w.copied().want(begin(), "0 3 0")
	w.run(begin())
	w.copied().want(begin(), "0 3 0")
	w.run(add(3, 1, 1), flush(0))
	w.copied().want(begin(), "0 4 0")
	w.run(begin(), commit(1))
	w.copied().want(begin(), "0 5 0")
}

// TestTheLastNumber: behind it nobody may begin, and there is room enough.
func TestTheLastNumber(t *testing.T) {
	for k, next := range []int{api.MaxTx, api.MaxTx + 1} {
		w := made(t, small)
		w.run(begin(), checkpoint(), abort(1))
		x := spoilt{t, loaded(t, w.disk.Image())}
		x.record(2, api.Record{Kind: api.Checkpoint, Points: api.Points{Next: next}})
		w = opened(t, x.d)
		if k == 0 {
			w.want(begin(), "0 2147483647 0")
		}
		w.refused(begin(), api.ErrMany)
		w.run(create(1, 1, 0, 9, 5))
	}
}
