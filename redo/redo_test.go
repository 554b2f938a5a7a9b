package redo_test

import (
	"errors"
	"math"
	"slices"
	"testing"

	"quota/api"
	"quota/log"
	"quota/page"
	"quota/pool"
	"quota/redo"
	"quota/sectors"
)

// store: a disk, its log, a pool over both.
type store struct {
	t     *testing.T
	disk  *sectors.Device
	log   *log.Log
	pool  *pool.Pool
	shape api.Shape
}

// opened: what a disk has.
func opened(t *testing.T, d *sectors.Device, s api.Shape) *store {
	t.Helper()
	l, err := log.Open(d, 5+2*s.Pages, s.Log)
	if err != nil {
		t.Fatal(err)
	}
	p, e := pool.New(d, l, s)
	if e != api.OK {
		t.Fatalf("no pool: %d", e)
	}
	return &store{t, d, l, p, s}
}

// made: a disk with empty pages, and with these records, none of which is forced.
func made(t *testing.T, s api.Shape, records ...api.Record) *store {
	t.Helper()
	d, e := sectors.New(5 + 2*s.Pages + s.Log)
	if e != api.OK {
		t.Fatalf("no disk: %d", e)
	}
	w := opened(t, d, s)
	for _, r := range records {
		w.append(r)
	}
	return w
}

func (w *store) append(r api.Record) {
	w.t.Helper()
	if _, e := w.log.Append(r); e != api.OK {
		w.t.Fatalf("no record %v: %d", r, e)
	}
}

// force: all records.
func (w *store) force() {
	w.t.Helper()
	if err := w.log.Force(w.log.Last()); err != nil {
		w.t.Fatal(err)
	}
}

// pinned: page n stays in the pool.
func (w *store) pinned(n int) {
	w.t.Helper()
	if err := w.pool.Pin(n); err != nil {
		w.t.Fatal(err)
	}
}

// lay: bytes for the home of page n, which the pool must not hold.
func (w *store) lay(n int, b []byte) {
	w.t.Helper()
	for k := range 2 {
		if e := w.disk.Write(5+2*n+k, b[512*k:512*k+512]); e != api.OK {
			w.t.Fatalf("Write: %d", e)
		}
	}
	if e := w.disk.Sync(); e != api.OK {
		w.t.Fatalf("Sync: %d", e)
	}
}

func bytesOf(t *testing.T, x page.Page) []byte {
	t.Helper()
	b, e := page.Encode(x)
	if e != api.OK {
		t.Fatalf("no page %v: %d", x, e)
	}
	return b
}

// want: Run's answer, without an error.
func (w *store) want(from, count int) {
	w.t.Helper()
	if n, err := redo.Run(w.log, w.pool, from); n != count || err != nil {
		w.t.Errorf("P18.1: Run(l, p, %d) = %d, %v, want %d", from, n, err, count)
	}
}

func (w *store) refused(from, at int, e api.Errno) {
	w.t.Helper()
	wantFault(w.t, w.log, w.pool, from, at, e)
}

// wantFault: Run's answer is that fault, with the number itself inside it.
func wantFault(t *testing.T, l *log.Log, p *pool.Pool, from, at int, e api.Errno) {
	t.Helper()
	n, err := redo.Run(l, p, from)
	var f *api.Fault
	if n != 0 || !errors.As(err, &f) || err != error(f) || *f != (api.Fault{Call: "Run", At: at, Err: e}) {
		t.Errorf("P18.1: Run from %d = %d, %v, want 0 and error %d at %d", from, n, err, e, at)
	}
}

func same(a, b page.Page) bool {
	return a.Number == b.Number && a.LSN == b.LSN && slices.Equal(a.Counters, b.Counters) && slices.Equal(a.Groups, b.Groups)
}

func (w *store) wantPage(x page.Page) {
	w.t.Helper()
	if got, err := w.pool.Get(x.Number); err != nil || !same(got, x) {
		w.t.Errorf("P18.1: page %d is %v, %v, want %v", x.Number, got, err, x)
	}
}

// wantEmpty: these pages.
func (w *store) wantEmpty(numbers ...int) {
	w.t.Helper()
	for _, n := range numbers {
		w.wantPage(page.Page{Number: n})
	}
}

// wantQuiet: no record is there but these, none is forced, and the disk was not written to.
func (w *store) wantQuiet(last int) {
	w.t.Helper()
	if w.log.Last() != last || w.log.Forced() != 0 || w.disk.Calls() != 0 || len(w.disk.Cache()) != 0 {
		w.t.Errorf("P18.2: Last %d, Forced %d, %d changing calls, %d writes in the cache", w.log.Last(), w.log.Forced(), w.disk.Calls(), len(w.disk.Cache()))
	}
}

func slot(page, index int) api.Slot { return api.Slot{Page: page, Index: index} }

func began(tx int) api.Record { return api.Record{Kind: api.Begin, Tx: tx} }

// over: a Commit, an Abort or an End.
func over(kind api.Kind, tx, prev int) api.Record {
	return api.Record{Kind: kind, Tx: tx, Prev: prev}
}

func create(id, group int, value int64, where, sums api.Slot) api.Record {
	c := api.Counter{ID: id, Group: group, Bounds: api.Range{Lo: math.MinInt64, Hi: math.MaxInt64}, Value: value}
	return api.Record{Kind: api.Create, Where: where, Sums: sums, Counter: c}
}

// change: an Add or an Undo, of transaction 1, whose record ahead is the first.
func change(kind api.Kind, id int, delta int64, where, sums api.Slot) api.Record {
	return api.Record{Kind: kind, Tx: 1, Prev: 1, Where: where, Sums: sums, Delta: delta, Counter: api.Counter{ID: id}}
}

var small = api.Shape{Pages: 3, Log: 4, Frames: 2}

// seven: the examples' counter, with a value.
func seven(value int64) api.Counter {
	return api.Counter{ID: 7, Group: 2, Bounds: api.Range{Lo: 0, Hi: 10}, Value: value}
}

func examples() []api.Record {
	return []api.Record{
		began(1),
		{Kind: api.Create, Where: slot(0, 0), Sums: slot(1, 0), Counter: seven(5)},
		change(api.Add, 7, 4, slot(0, 0), slot(1, 0)),
	}
}

// wantExamples: the pages behind all of the examples' records.
func (w *store) wantExamples() {
	w.t.Helper()
	w.wantPage(page.Page{Number: 0, LSN: 3, Counters: []api.Counter{seven(9)}})
	w.wantPage(page.Page{Number: 1, LSN: 3, Groups: []api.Group{{ID: 2, Sum: 9}}})
}

func TestExamples(t *testing.T) {
	w := made(t, small, examples()...)
	wantFault(t, nil, w.pool, 1, 0, api.ErrHandle)
	w.refused(-1, 0, api.ErrPlace)
	w.refused(5, 0, api.ErrPlace)
	w.want(0, 0)
	w.want(4, 0)
	if held := w.pool.Held(); len(held) > 0 {
		t.Errorf("P18.1: the pages %v were got, for nothing", held)
	}
	w.wantEmpty(0, 1)
	w.want(2, 4)
	w.wantExamples()
	w.want(1, 0)
	w.wantExamples()
	w.wantQuiet(3)

	w = made(t, small, examples()...)
	w.refused(3, 3, api.ErrSlot)
	w.wantEmpty(0, 1)
	w.wantQuiet(3)

	w = made(t, small, examples()...)
	w.want(1, 4)
	w.wantExamples()
}

// TestOrderOfErrors: what is not there comes ahead of the record's number, and that ahead of all records.
func TestOrderOfErrors(t *testing.T) {
	w := made(t, small, examples()...)
	for _, from := range []int{math.MinInt, -1, 0, 1, 3, 4, 5, math.MaxInt} {
		wantFault(t, nil, w.pool, from, 0, api.ErrHandle)
		wantFault(t, w.log, nil, from, 0, api.ErrHandle)
		wantFault(t, nil, nil, from, 0, api.ErrHandle)
	}
	for _, from := range []int{math.MinInt, -1 << 32, -4, -3, -1, 5, 6, 1 << 31, 1<<32 + 2, 1 << 62, math.MaxInt} {
		w.refused(from, 0, api.ErrPlace)
	}
	w.wantEmpty(0, 1, 2)
	w.wantQuiet(3)

	none := made(t, small)
	none.want(0, 0)
	none.want(1, 0)
	none.refused(2, 0, api.ErrPlace)
	none.refused(-1, 0, api.ErrPlace)
	none.wantQuiet(0)
}

// TestFaultsAreNew: who changes one changes no other.
func TestFaultsAreNew(t *testing.T) {
	w := made(t, small, examples()...)
	for _, from := range []int{-1, 3} {
		_, a := redo.Run(w.log, w.pool, from)
		_, b := redo.Run(w.log, w.pool, from)
		f, g := a.(*api.Fault), b.(*api.Fault)
		f.Call, f.At, f.Err = "", -1, nil
		if g.Call != "Run" || g.Err == nil {
			t.Error("P18.1: two answers are one fault")
		}
	}
}

// TestWhatChangesNoPage: such records are gone by, and no page is got for them.
func TestWhatChangesNoPage(t *testing.T) {
	s := api.Shape{Pages: 2, Log: 9, Frames: 2}
	points := api.Record{Kind: api.Checkpoint, Points: api.Points{Dirty: []api.Dirty{{Page: 0, Since: 1}}, Next: 3}}
	w := made(t, s, began(1), over(api.Commit, 1, 1), over(api.End, 1, 2), began(2), over(api.Abort, 2, 4), over(api.End, 2, 5), points)
	for from := range 9 {
		w.want(from, 0)
	}
	if held := w.pool.Held(); len(held) > 0 {
		t.Errorf("P18.1: the pages %v were got, for nothing", held)
	}
	w.wantQuiet(7)
}

// TestEachKind: of the three that change pages, record by record.
func TestEachKind(t *testing.T) {
	s := api.Shape{Pages: 4, Log: 9, Frames: 4}
	w := made(t, s, began(1), create(7, 2, 5, slot(3, 0), slot(1, 0)), change(api.Add, 7, 4, slot(3, 0), slot(1, 0)))
	w.want(1, 4)
	w.append(over(api.Abort, 1, 3))
	w.append(change(api.Undo, 7, 4, slot(3, 0), slot(1, 0)))
	w.want(1, 2)
	c := create(7, 2, 5, slot(3, 0), slot(1, 0)).Counter
	w.wantPage(page.Page{Number: 3, LSN: 5, Counters: []api.Counter{c}})
	w.wantPage(page.Page{Number: 1, LSN: 5, Groups: []api.Group{{ID: 2, Sum: 5}}})
	w.append(create(9, 2, -6, slot(0, 0), slot(1, 0)))
	w.want(6, 2)
	w.append(create(8, 3, 1, slot(3, 1), slot(1, 1)))
	w.want(7, 2)
	w.wantPage(page.Page{Number: 1, LSN: 7, Groups: []api.Group{{ID: 2, Sum: -1}, {ID: 3, Sum: 1}}})
	w.wantEmpty(2)
	w.wantQuiet(7)
}

// TestOnePageOlder: each page is looked at by itself.
func TestOnePageOlder(t *testing.T) {
	for _, c := range []struct {
		what        string
		pages       []page.Page
		from, count int
	}{
		{"the sum knows the create", []page.Page{{Number: 1, LSN: 2, Groups: []api.Group{{ID: 2, Sum: 5}}}}, 1, 3},
		{"the sum knows all", []page.Page{{Number: 1, LSN: 3, Groups: []api.Group{{ID: 2, Sum: 9}}}}, 2, 2},
		{"the counter knows all", []page.Page{{LSN: 3, Counters: []api.Counter{seven(9)}}}, 1, 2},
		{"the counter knows the create", []page.Page{{LSN: 2, Counters: []api.Counter{seven(5)}}}, 2, 3},
		{"both know the create", []page.Page{{LSN: 2, Counters: []api.Counter{seven(5)}}, {Number: 1, LSN: 2, Groups: []api.Group{{ID: 2, Sum: 5}}}}, 3, 2},
	} {
		w := made(t, small, examples()...)
		for _, x := range c.pages {
			w.lay(x.Number, bytesOf(t, x))
		}
		w.want(c.from, c.count)
		w.wantExamples()
		if t.Failed() {
			t.Fatal(c.what)
		}
	}
}
