package undo_test

import (
	"errors"
	"maps"
	"math"
	"slices"
	"testing"

	"quota/api"
	"quota/apply"
	"quota/log"
	"quota/page"
	"quota/pool"
	"quota/sectors"
	"quota/txns"
	"quota/undo"
)

// store: a disk, its log, a pool over both, and the table of who lives by the log.
type store struct {
	t     *testing.T
	disk  *sectors.Device
	log   *log.Log
	pool  *pool.Pool
	table *txns.Table
	shape api.Shape
}

// opened: what a disk has; the table is still that of nobody.
func opened(t *testing.T, d *sectors.Device, s api.Shape) *store {
	t.Helper()
	l, err := log.Open(d, 5+2*s.Pages, s.Log)
	if err != nil {
		t.Fatal(err)
	}
	p, e := pool.New(d, l, s)
	if e != api.OK {
		t.Fatalf("no pool: %d", e)
	}
	x, e := txns.New(1)
	if e != api.OK {
		t.Fatalf("no table: %d", e)
	}
	return &store{t, d, l, p, x, s}
}

// made: a disk with empty pages, with these records, none of which is forced, and with what they make of the pages.
func made(t *testing.T, s api.Shape, records ...api.Record) *store {
	t.Helper()
	d, e := sectors.New(5 + 2*s.Pages + s.Log)
	if e != api.OK {
		t.Fatalf("no disk: %d", e)
	}
	w := opened(t, d, s)
	for _, r := range records {
		w.write(r)
	}
	return w
}

// log1: a record goes to the log and to the table alone; its Prev is what the table says.
func (w *store) log1(r api.Record) api.Record {
	w.t.Helper()
	if x, e := w.table.Get(r.Tx); e == api.OK {
		r.Prev = x.Last
	}
	lsn, e := w.log.Append(r)
	if e != api.OK {
		w.t.Fatalf("no record %v: %d", r, e)
	}
	r.LSN = lsn
	if e := w.table.Note(r); e != api.OK {
		w.t.Fatalf("the table does not take %v: %d", r, e)
	}
	return r
}

// write: and to its pages.
func (w *store) write(r api.Record) {
	w.t.Helper()
	r = w.log1(r)
	for _, n := range apply.Pages(r) {
		x, did, e := apply.Do(w.page(n), r)
		if e != api.OK || !did {
			w.t.Fatalf("%v on page %d: %v, %d", r, n, did, e)
		}
		if err := w.pool.Put(x); err != nil {
			w.t.Fatal(err)
		}
	}
}

func (w *store) page(n int) page.Page {
	w.t.Helper()
	x, err := w.pool.Get(n)
	if err != nil {
		w.t.Fatal(err)
	}
	return x
}

// records: all of the log.
func (w *store) records() []api.Record {
	w.t.Helper()
	var out []api.Record
	for lsn := 1; lsn <= w.log.Last(); lsn++ {
		r, e := w.log.Get(lsn)
		if e != api.OK {
			w.t.Fatalf("Get(%d): %d", lsn, e)
		}
		out = append(out, r)
	}
	return out
}

func (w *store) force() {
	w.t.Helper()
	if err := w.log.Force(w.log.Last()); err != nil {
		w.t.Fatal(err)
	}
}

func (w *store) pinned(numbers ...int) {
	w.t.Helper()
	for _, n := range numbers {
		if err := w.pool.Pin(n); err != nil {
			w.t.Fatal(err)
		}
	}
}

// lay: bytes for the home of page n, which the pool gives away ahead of that.
func (w *store) lay(n int, b []byte) {
	w.t.Helper()
	if slices.Contains(w.pool.Held(), n) {
		if err := w.pool.Evict(n); err != nil {
			w.t.Fatal(err)
		}
	}
	for k := range 2 {
		if e := w.disk.Write(5+2*n+k, b[512*k:512*k+512]); e != api.OK {
			w.t.Fatalf("Write: %d", e)
		}
	}
	if e := w.disk.Sync(); e != api.OK {
		w.t.Fatalf("Sync: %d", e)
	}
}

func bytesOf(t *testing.T, x page.Page) []byte {
	t.Helper()
	b, e := page.Encode(x)
	if e != api.OK {
		t.Fatalf("no page %v: %d", x, e)
	}
	return b
}

// values: of all counters, by their numbers, and of all sums, by their groups' with a minus.
func (w *store) values() map[int]int64 {
	w.t.Helper()
	out := map[int]int64{}
	for n := range w.shape.Pages {
		x := w.page(n)
		for _, c := range x.Counters {
			out[c.ID] = c.Value
		}
		for _, g := range x.Groups {
			out[-g.ID] = g.Sum
		}
	}
	return out
}

// run: Run, which must answer so many.
func (w *store) run(tx, count int) {
	w.t.Helper()
	if n, err := undo.Run(w.log, w.pool, w.table, tx); n != count || err != nil {
		w.t.Errorf("P19.3: Run of %d = %d, %v, want %d", tx, n, err, count)
	}
}

func (w *store) refused(tx int, e api.Errno) {
	w.t.Helper()
	wantFault(w.t, w.log, w.pool, w.table, tx, e)
}

// wantFault: Run's answer is that fault, with the number itself inside it.
func wantFault(t *testing.T, l *log.Log, p *pool.Pool, x *txns.Table, tx int, e api.Errno) {
	t.Helper()
	n, err := undo.Run(l, p, x, tx)
	var f *api.Fault
	if n != 0 || !errors.As(err, &f) || err != error(f) || *f != (api.Fault{Call: "Run", Err: e}) {
		t.Errorf("P19.1, P19.3: Run of %d = %d, %v, want 0 and error %d at 0", tx, n, err, e)
	}
}

// wantBehind: the log's records behind number n, with their numbers.
func (w *store) wantBehind(n int, want ...api.Record) {
	w.t.Helper()
	for k := range want {
		want[k].LSN = n + 1 + k
	}
	if got := w.records()[n:]; !same(got, want) {
		w.t.Errorf("P19.3: behind record %d stand %v, want %v", n, got, want)
	}
}

func (w *store) wantLive(want ...api.Live) {
	w.t.Helper()
	if got := w.table.Live(); !slices.Equal(got, want) {
		w.t.Errorf("P19.3: there live %v, want %v", got, want)
	}
}

func (w *store) wantValues(want map[int]int64) {
	w.t.Helper()
	if got := w.values(); !maps.Equal(got, want) {
		w.t.Errorf("P19.6: the values are %v, want %v", got, want)
	}
}

// wantQuiet: nothing is forced, and the disk was not written to.
func (w *store) wantQuiet() {
	w.t.Helper()
	if w.log.Forced() != 0 || w.disk.Calls() != 0 || len(w.disk.Cache()) != 0 {
		w.t.Errorf("P19.3: %d records are forced, %d changing calls, %d writes in the cache", w.log.Forced(), w.disk.Calls(), len(w.disk.Cache()))
	}
}

// after: the record, chained to another one.
func after(prev int, r api.Record) api.Record {
	r.Prev = prev
	return r
}

func create(id, group int, value int64, where, sums api.Slot) api.Record {
	c := api.Counter{ID: id, Group: group, Bounds: api.Range{Lo: math.MinInt64, Hi: math.MaxInt64}, Value: value}
	return api.Record{Kind: api.Create, Where: where, Sums: sums, Counter: c}
}

var small = api.Shape{Pages: 3, Log: 20, Frames: 2}

// add3, undone3: of the examples' counter 3, which stands in the second slot.
func add3(tx int, delta int64) api.Record { return at(add(tx, 3, delta), slot(0, 1), slot(1, 0)) }

func undone3(tx int, delta int64) api.Record {
	return at(undone(tx, 3, delta), slot(0, 1), slot(1, 0))
}

// both: the counters 7 and 3 of group 2, with the values 10 and 20.
func both() []api.Record {
	return list(create(7, 2, 10, slot(0, 0), slot(1, 0)), create(3, 2, 20, slot(0, 1), slot(1, 0)))
}

// examples: the records of the chapter's run: transaction 2 begins with record 4.
func examples() []api.Record {
	return append(both(), plain(api.Begin, 1), plain(api.Begin, 2), add(2, 7, 5), add3(2, 0))
}
