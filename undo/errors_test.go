package undo_test

import (
	"math"
	"testing"

	"quota/api"
	"quota/log"
	"quota/page"
	"quota/pool"
	"quota/txns"
	"quota/undo"
)

// endLog: the disk gives up within a Force.
func (w *store) endLog() {
	w.t.Helper()
	w.disk.Arm(1, api.Loss{})
	if err := w.log.Force(w.log.Last()); err == nil {
		w.t.Fatal("the disk was to give up")
	}
}

// wantUntouched: no record is there but these many, the table is as it was, no page was asked for.
func (w *store) wantUntouched(last int, live []api.Live, held int) {
	w.t.Helper()
	if w.log.Last() != last || len(w.pool.Held()) != held {
		w.t.Errorf("P19.3: a Run that is refused leaves %d records, and the pages %v", w.log.Last(), w.pool.Held())
	}
	w.wantLive(live...)
}

// TestWhatIsNotThere: ahead of all else, the number of the transaction too.
func TestWhatIsNotThere(t *testing.T) {
	w := made(t, small, examples()...)
	live := w.table.Live()
	for _, tx := range []int{math.MinInt, -1, 0, 1, 2, 3, math.MaxInt} {
		for k := 1; k < 8; k++ {
			l, p, x := w.log, w.pool, w.table
			if k&1 > 0 {
				l = nil
			}
			if k&2 > 0 {
				p = nil
			}
			if k&4 > 0 {
				x = nil
			}
			wantFault(t, l, p, x, tx, api.ErrHandle)
		}
	}
	w.wantUntouched(6, live, 2)
	w.wantQuiet()
}

// TestWhoDoesNotLive: that is asked of the table ahead of the log.
func TestWhoDoesNotLive(t *testing.T) {
	w := made(t, small, append(examples(), plain(api.Commit, 1), plain(api.End, 1))...)
	live := w.table.Live()
	for _, tx := range []int{math.MinInt, -1, 0, 1, 3, 4, 1<<31 - 1, 1 << 31, 1<<32 + 2, math.MaxInt} {
		w.refused(tx, api.ErrTx)
	}
	w.wantUntouched(8, live, 2)
	w.endLog()
	w.refused(1, api.ErrTx)
	w.refused(0, api.ErrTx)
	w.refused(2, api.ErrDown)
	w.wantLive(live...)
}

// TestWhoIsCommitted: that is asked ahead of the log too.
func TestWhoIsCommitted(t *testing.T) {
	w := made(t, small, append(examples(), plain(api.Commit, 2))...)
	live := w.table.Live()
	w.refused(2, api.ErrKind)
	w.wantUntouched(7, live, 2)
	w.endLog()
	w.refused(2, api.ErrKind)

	// Here the log has a fault of its own.
	w = made(t, small, append(both(), plain(api.Begin, 1))...)
	if _, e := w.log.Append(after(3, undone(1, 7, 1))); e != api.OK {
		t.Fatal(e)
	}
	w.log1(plain(api.Commit, 1))
	w.refused(1, api.ErrKind)
	w.wantUntouched(5, []api.Live{{Tx: 1, Last: 5, Committed: true}}, 2)
}

// TestErrorsOfLeft: nothing is done then, and so it is a second time.
func TestErrorsOfLeft(t *testing.T) {
	for _, c := range []struct {
		what    string
		records []api.Record
		e       api.Errno
	}{
		{"a net too great", list(plain(api.Begin, 1), add(1, 7, math.MaxInt64), add(1, 7, 1), plain(api.Abort, 1)), api.ErrOverflow},
		{"a net too small", list(plain(api.Begin, 1), add(1, 7, -2), add(1, 7, math.MinInt64)), api.ErrOverflow},
		{"an undo of what is not held", list(plain(api.Begin, 1), add(1, 7, 2), plain(api.Abort, 1), undone3(1, 2)), api.ErrCounter},
		{"an undo twice", list(plain(api.Begin, 1), add(1, 7, 2), plain(api.Abort, 1), undone(1, 7, 2), undone(1, 7, 2)), api.ErrCounter},
		{"an undo of another net", list(plain(api.Begin, 1), add(1, 7, 2), plain(api.Abort, 1), undone(1, 7, 3)), api.ErrLog},
		{"an undo elsewhere", list(plain(api.Begin, 1), add(1, 7, 2), plain(api.Abort, 1), at(undone(1, 7, 2), slot(0, 1), slot(1, 0))), api.ErrLog},
		{"an undo of another sum", list(plain(api.Begin, 1), add(1, 7, 2), plain(api.Abort, 1), at(undone(1, 7, 2), slot(0, 0), slot(1, 1))), api.ErrLog},
	} {
		w := made(t, small)
		for _, r := range c.records {
			w.log1(r)
		}
		live := w.table.Live()
		for range 2 {
			w.refused(1, c.e)
			w.wantUntouched(len(c.records), live, 0)
		}
		w.wantQuiet()
		w.endLog()
		w.refused(1, api.ErrDown) // the log's error comes ahead
		if t.Failed() {
			t.Fatal(c.what)
		}
	}
}

// TestAnEndedLog: ahead of a record, and with nothing changed.
func TestAnEndedLog(t *testing.T) {
	w := made(t, small, examples()...)
	live := w.table.Live()
	w.endLog()
	for range 2 {
		w.refused(2, api.ErrDown)
		w.wantUntouched(6, live, 2)
	}
}

// TestAFullLog: at each record of a Run; what was done by then stays done.
func TestAFullLog(t *testing.T) {
	for free := range 5 {
		s := api.Shape{Pages: 2, Log: 6 + free, Frames: 2}
		w := made(t, s, append(both(), plain(api.Begin, 1), plain(api.Begin, 2), add(2, 7, 5), add3(2, 4))...)
		steps := list(after(6, plain(api.Abort, 2)), after(7, undone3(2, 4)), after(8, undone(2, 7, 5)), after(9, plain(api.End, 2)))
		if free == 4 {
			w.run(2, 2)
			w.wantBehind(6, steps...)
			w.wantLive(api.Live{Tx: 1, Last: 3})
			continue
		}
		for range 2 {
			w.refused(2, api.ErrFull)
			w.wantBehind(6, steps[:free]...)
			w.wantLive(api.Live{Tx: 1, Last: 3}, api.Live{Tx: 2, Last: 6 + free, Undoing: free > 0})
		}
		want := []map[int]int64{{7: 15, 3: 24, -2: 39}, {7: 15, 3: 24, -2: 39}, {7: 15, 3: 20, -2: 35}, {7: 10, 3: 20, -2: 30}}
		w.wantValues(want[free])
		w.wantQuiet()
	}
}

// TestATableAheadOfItsLog: the log does not take a record whose Prev is not below it.
func TestATableAheadOfItsLog(t *testing.T) {
	w := made(t, small, examples()...)
	for _, last := range []int{7, 8, 1<<31 - 1} {
		for _, undoing := range []bool{false, true} {
			live := []api.Live{{Tx: 2, Last: last, Undoing: undoing}}
			w.table, _ = txns.Load(api.Points{Live: live, Next: 3})
			w.refused(2, api.ErrField)
			w.wantUntouched(6, live, 2)
		}
	}
	w.table, _ = txns.Load(api.Points{Live: []api.Live{{Tx: 1<<31 - 1, Last: 6}}, Next: 1 << 31})
	w.run(1<<31-1, 0)
	w.wantBehind(6, after(6, plain(api.Abort, 1<<31-1)), after(7, plain(api.End, 1<<31-1)))
	w.wantQuiet()
}

// wantCutOff: a Run of transaction 2 of the examples that ends at the pages of its first undo.
func (w *store) wantCutOff(e api.Errno) {
	w.t.Helper()
	w.refused(2, e)
	w.wantBehind(6, after(6, plain(api.Abort, 2)), after(7, undone3(2, 0)))
	w.wantLive(api.Live{Tx: 1, Last: 3}, api.Live{Tx: 2, Last: 8, Undoing: true})
}

// TestErrorsOfGet: the record is there by then, and the table knows of it.
func TestErrorsOfGet(t *testing.T) {
	w := made(t, small, examples()...)
	w.pool.Evict(0)
	w.disk.Crash(api.Loss{})
	w.wantCutOff(api.ErrDown)

	w = made(t, small, examples()...)
	w.pinned(2, 1)
	w.wantCutOff(api.ErrFull)

	x := page.Page{Number: 1, LSN: 6, Groups: []api.Group{{ID: 2, Sum: 35}}}
	wrong := func(at int) []byte {
		out := bytesOf(t, x)
		out[at] ^= 1
		return out
	}
	other := x
	other.Number = 2
	for _, c := range []struct {
		b []byte
		e api.Errno
	}{{wrong(0), api.ErrMark}, {wrong(600), api.ErrSum}, {bytesOf(t, other), api.ErrPage}} {
		w = made(t, small, examples()...)
		w.lay(1, c.b)
		w.wantCutOff(c.e)
		if x := w.page(0); x.LSN != 8 {
			t.Errorf("P19.3: page 0, which comes first, has the LSN %d", x.LSN)
		}
		w.lay(0, bytesOf(t, page.Page{Number: 0}))
		w.refused(2, api.ErrSlot)
	}

	for _, c := range []struct {
		where, sums int
		e           api.Errno
	}{{63, 1, api.ErrPlace}, {4, 3, api.ErrPlace}, {3, 0, api.ErrSlot}, {0, 3, api.ErrSlot}} { // the lower page's error comes first
		w = made(t, small, append(both(), plain(api.Begin, 1))...)
		w.log1(at(add(1, 9, 1), slot(c.where, 0), slot(c.sums, 0)))
		w.refused(1, c.e)
		w.wantLive(api.Live{Tx: 1, Last: 6, Undoing: true})
	}
}

// TestErrorsOfApply: of each page by itself.
func TestErrorsOfApply(t *testing.T) {
	most := int64(math.MaxInt64)
	counter := func(id int, value int64) api.Counter { return create(id, 2, value, slot(0, 0), slot(1, 0)).Counter }
	for _, c := range []struct {
		what string
		x    page.Page
		e    api.Errno
	}{
		{"no counter in the slot", page.Page{Number: 0}, api.ErrSlot},
		{"another counter in the slot", page.Page{Number: 0, LSN: 5, Counters: []api.Counter{counter(7, 1), counter(4, 1)}}, api.ErrSlot},
		{"groups on the counter's page", page.Page{Number: 0, LSN: 5, Groups: []api.Group{{ID: 2}, {ID: 3}}}, api.ErrSlot},
		{"a value too small", page.Page{Number: 0, LSN: 5, Counters: []api.Counter{counter(7, 1), counter(3, math.MinInt64+1)}}, api.ErrOverflow},
		{"no group in the slot", page.Page{Number: 1}, api.ErrSlot},
		{"counters on the sum's page", page.Page{Number: 1, LSN: 5, Counters: []api.Counter{counter(7, 1), counter(3, 1)}}, api.ErrSlot},
		{"a sum too small", page.Page{Number: 1, LSN: 5, Groups: []api.Group{{ID: 2, Sum: math.MinInt64 + 1}}}, api.ErrOverflow},
		{"a sum too small by far", page.Page{Number: 1, LSN: 5, Groups: []api.Group{{ID: 2, Sum: -most}}}, api.ErrOverflow},
	} {
		w := made(t, small, create(7, 2, 0, slot(0, 0), slot(1, 0)), create(3, 2, 0, slot(0, 1), slot(1, 0)), plain(api.Begin, 1), plain(api.Begin, 2), add3(2, 2), add(2, 7, 4))
		w.lay(c.x.Number, bytesOf(t, c.x))
		w.refused(2, c.e)
		w.wantBehind(6, after(6, plain(api.Abort, 2)), after(7, undone3(2, 2)))
		w.wantLive(api.Live{Tx: 1, Last: 3}, api.Live{Tx: 2, Last: 8, Undoing: true})
		if x := w.page(c.x.Number); x.LSN != c.x.LSN {
			t.Errorf("P19.3: page %d has the LSN %d", x.Number, x.LSN)
		}
		if lsn := w.page(0).LSN; c.x.Number == 1 && lsn != 8 {
			t.Errorf("P19.3: page 0, which comes first, has the LSN %d", lsn)
		}
		if lsn := w.page(1).LSN; c.x.Number == 0 && lsn != 6 {
			t.Errorf("P19.3: page 1, which comes last, has the LSN %d", lsn)
		}
		if t.Failed() {
			t.Fatal(c.what)
		}
	}
}

// TestTheLowerPageComesFirst: here it is the sum's.
func TestTheLowerPageComesFirst(t *testing.T) {
	w := made(t, small, create(7, 2, 1, slot(1, 0), slot(0, 0)), plain(api.Begin, 1), at(add(1, 7, 5), slot(1, 0), slot(0, 0)))
	w.lay(1, bytesOf(t, page.Page{Number: 1}))
	w.refused(1, api.ErrSlot)
	if x := w.page(0); x.LSN != 5 || x.Groups[0].Sum != 1 {
		t.Errorf("P19.3: the sum's page is %v", x)
	}
	w.wantBehind(3, after(3, plain(api.Abort, 1)), after(4, at(undone(1, 7, 5), slot(1, 0), slot(0, 0))))
}

// TestErrorsOfPut: a pool over another log, which knows no such record.
func TestErrorsOfPut(t *testing.T) {
	w, other := made(t, small, examples()...), made(t, small, examples()...)
	wantFault(t, w.log, other.pool, w.table, 2, api.ErrPlace)
	w.wantBehind(6, after(6, plain(api.Abort, 2)), after(7, undone3(2, 0)))
	w.wantLive(api.Live{Tx: 1, Last: 3}, api.Live{Tx: 2, Last: 8, Undoing: true})
	other.wantValues(map[int]int64{7: 15, 3: 20, -2: 35})
	if other.log.Last() != 6 {
		t.Errorf("P19.3: the other log has %d records", other.log.Last())
	}
}

// TestOnAgainBehindAnError: what is left is done, what was written is not written twice.
func TestOnAgainBehindAnError(t *testing.T) {
	w := made(t, small, append(both(), create(5, 3, 1, slot(2, 0), slot(1, 1)), plain(api.Begin, 1), add(1, 7, 5), add3(1, 4), at(add(1, 5, 6), slot(2, 0), slot(1, 1)))...)
	if err := w.pool.Evict(2); err != nil {
		t.Fatal(err)
	}
	w.pinned(0, 1)
	w.refused(1, api.ErrFull) // page 2, of counter 5, has no place; that of counter 3 was done
	five := at(undone(1, 5, 6), slot(2, 0), slot(1, 1))
	steps := list(after(7, plain(api.Abort, 1)), after(8, undone3(1, 4)), after(9, five), after(10, undone(1, 7, 5)), after(11, plain(api.End, 1)))
	w.wantBehind(7, steps[:3]...)
	w.wantLive(api.Live{Tx: 1, Last: 10, Undoing: true})
	if x := w.page(0); x.Counters[0].Value != 15 || x.Counters[1].Value != 20 {
		t.Errorf("P19.3: page 0 is %v", x)
	}
	w.pool.Unpin(0)
	w.run(1, 1)
	w.wantBehind(7, steps...)
	w.wantLive()
	w.wantValues(map[int]int64{7: 10, 3: 20, 5: 7, -2: 30, -3: 1}) // of page 2 alone the undo was not done: it is redo's
}

// TestADiskThatGivesUpWithin: a page has to leave for another one.
func TestADiskThatGivesUpWithin(t *testing.T) {
	for step := 1; step <= 8; step++ {
		w := made(t, small, examples()...)
		w.pool.Get(2)
		w.disk.Arm(step, api.Loss{})
		w.refused(2, api.ErrDown)
		live := w.table.Live()
		if w.log.Last() != 8 || len(live) != 2 || live[1] != (api.Live{Tx: 2, Last: 8, Undoing: true}) {
			t.Errorf("P19.3: there are %d records, and %v", w.log.Last(), live)
		}
		w.refused(2, api.ErrDown)
	}
}

// TestFaultsAreNew: who changes one changes no other.
func TestFaultsAreNew(t *testing.T) {
	w := made(t, small, examples()...)
	_, a := undo.Run(w.log, w.pool, w.table, 9)
	_, b := undo.Run(w.log, w.pool, w.table, 9)
	f, g := a.(*api.Fault), b.(*api.Fault)
	f.Call, f.At, f.Err = "", -1, nil
	if g.Call != "Run" || g.At != 0 || g.Err != error(api.ErrTx) {
		t.Error("P19.1: two answers are one fault")
	}
}

// TestNothingMade: a log, a pool and a table that no call has answered do not bring Run down.
func TestNothingMade(t *testing.T) {
	w := made(t, small, examples()...)
	wantFault(t, new(log.Log), new(pool.Pool), new(txns.Table), 1, api.ErrTx)
	wantFault(t, w.log, w.pool, new(txns.Table), 2, api.ErrTx)
	wantFault(t, w.log, new(pool.Pool), w.table, 2, api.ErrLimits)
	wantFault(t, new(log.Log), w.pool, made(t, small, plain(api.Begin, 1)).table, 1, api.ErrField)
}
