package undo_test

import (
	"math"
	"slices"
	"testing"

	"quota/api"
	"quota/page"
	"quota/undo"
)

func TestWorkedExamplesOfRun(t *testing.T) {
	w := made(t, small, examples()...)
	wantFault(t, nil, w.pool, w.table, 1, api.ErrHandle)
	w.refused(3, api.ErrTx)
	w.run(2, 2)
	w.wantBehind(6, after(6, plain(api.Abort, 2)), after(7, undone3(2, 0)), after(8, undone(2, 7, 5)), after(9, plain(api.End, 2)))
	w.wantLive(api.Live{Tx: 1, Last: 3})
	w.refused(2, api.ErrTx)
	w.wantBehind(10)
	w.wantQuiet()
	w.wantValues(map[int]int64{7: 10, 3: 20, -2: 30})

	w = made(t, small, append(examples(), plain(api.Abort, 2), undone3(2, 0))...)
	w.wantLive(api.Live{Tx: 1, Last: 3}, api.Live{Tx: 2, Last: 8, Undoing: true})
	w.run(2, 1)
	w.wantBehind(8, after(8, undone(2, 7, 5)), after(9, plain(api.End, 2)))
	w.wantLive(api.Live{Tx: 1, Last: 3})
	w.wantValues(map[int]int64{7: 10, 3: 20, -2: 30})

	w = made(t, small, append(examples(), plain(api.Commit, 2))...)
	w.refused(2, api.ErrKind)
	w.wantBehind(7)
	w.wantLive(api.Live{Tx: 1, Last: 3}, api.Live{Tx: 2, Last: 7, Committed: true})
}

// TestATransactionThatHoldsNothing: it ends all the same.
func TestATransactionThatHoldsNothing(t *testing.T) {
	w := made(t, small, plain(api.Begin, 1))
	w.run(1, 0)
	w.wantBehind(1, after(1, plain(api.Abort, 1)), after(2, plain(api.End, 1)))
	w.wantLive()
	if held := w.pool.Held(); len(held) > 0 {
		t.Errorf("P19.3: the pages %v were got, for nothing", held)
	}

	w = made(t, small, plain(api.Begin, 1), plain(api.Abort, 1))
	w.run(1, 0)
	w.wantBehind(2, after(2, plain(api.End, 1)))
	w.wantLive()
	w.wantQuiet()
}

// TestThePagesBehindARun: both are as old as the undo that changed them last; no other page is touched.
func TestThePagesBehindARun(t *testing.T) {
	s := api.Shape{Pages: 5, Log: 30, Frames: 5}
	w := made(t, s, create(7, 2, 10, slot(0, 0), slot(3, 0)), create(3, 4, 20, slot(1, 0), slot(4, 0)), create(5, 2, 1, slot(0, 1), slot(3, 0)),
		plain(api.Begin, 1), plain(api.Begin, 2),
		at(add(1, 7, 5), slot(0, 0), slot(3, 0)), at(add(1, 3, -6), slot(1, 0), slot(4, 0)), at(add(2, 3, 2), slot(1, 0), slot(4, 0)), at(add(1, 7, 1), slot(0, 0), slot(3, 0)))
	w.run(1, 2)
	w.wantBehind(9, after(9, plain(api.Abort, 1)), after(10, at(undone(1, 3, -6), slot(1, 0), slot(4, 0))), after(11, at(undone(1, 7, 6), slot(0, 0), slot(3, 0))), after(12, plain(api.End, 1)))
	w.wantLive(api.Live{Tx: 2, Last: 8})
	w.wantValues(map[int]int64{7: 10, 3: 22, 5: 1, -2: 11, -4: 22})
	for n, lsn := range []int{12, 11, 0, 12, 11} {
		if x := w.page(n); x.LSN != lsn {
			t.Errorf("P19.3: page %d has the LSN %d, want %d", n, x.LSN, lsn)
		}
	}
	since := []api.Dirty{{Page: 0, Since: 1}, {Page: 1, Since: 2}, {Page: 3, Since: 1}, {Page: 4, Since: 2}}
	if got := w.pool.Dirty(); !slices.Equal(got, since) {
		t.Errorf("P19.3: the dirty pages are %v, want %v", got, since)
	}
	w.wantQuiet()
}

// TestNetsAtTheEdges: the least net has no opposite, and is taken away all the same.
func TestNetsAtTheEdges(t *testing.T) {
	for _, c := range []struct {
		value  int64
		deltas []int64
	}{
		{0, []int64{math.MaxInt64}},
		{0, []int64{math.MinInt64}},
		{math.MaxInt64, []int64{math.MinInt64}},
		{math.MinInt64, []int64{math.MaxInt64}},
		{-1, []int64{math.MinInt64 + 1}},
		{math.MaxInt64, []int64{-math.MaxInt64, math.MinInt64 + math.MaxInt64}},
		{math.MinInt64, []int64{math.MaxInt64, -math.MaxInt64}},
		{math.MaxInt64, []int64{0}},
	} {
		w := made(t, small, create(7, 2, c.value, slot(0, 0), slot(1, 0)), plain(api.Begin, 1))
		net := int64(0)
		for _, d := range c.deltas {
			w.write(add(1, 7, d))
			net += d
		}
		last := w.log.Last()
		w.run(1, 1)
		w.wantBehind(last, after(last, plain(api.Abort, 1)), after(last+1, undone(1, 7, net)), after(last+2, plain(api.End, 1)))
		w.wantValues(map[int]int64{7: c.value, -2: c.value})
	}
}

// TestManyCounters: as many as stand in several pages; a pool of two frames gives pages away amid the call.
func TestManyCounters(t *testing.T) {
	s := api.Shape{Pages: 5, Log: 400, Frames: 2}
	w := made(t, s)
	for k := range 90 {
		w.write(create(1000-k, 1+k%3, int64(k), slot(k/31, k%31), slot(4, k%3)))
	}
	want := w.values()
	w.write(plain(api.Begin, 1))
	for k := range 90 {
		w.write(at(add(1, 1000-k, int64(2*k-60)), slot(k/31, k%31), slot(4, k%3)))
	}
	w.run(1, 90)
	w.wantValues(want)
	w.wantLive()
	ids := 0
	for k, r := range w.records()[182:272] {
		if r.Kind != api.Undo || r.Prev != 182+k || r.Counter.ID <= ids {
			t.Fatalf("P19.3: record %d is %v", r.LSN, r)
		}
		ids = r.Counter.ID
	}
	if w.log.Last() != 273 {
		t.Errorf("P19.3: there are %d records", w.log.Last())
	}
}

// TestTheSlotsOfTheLastAdd: they are the log's, whatever the page has.
func TestTheSlotsOfTheLastAdd(t *testing.T) {
	w := made(t, small, append(both(), plain(api.Begin, 1), add(1, 7, 5))...)
	w.log1(at(add(1, 7, 1), slot(0, 9), slot(1, 8)))
	w.refused(1, api.ErrSlot)
	w.wantBehind(5, after(5, plain(api.Abort, 1)), after(6, at(undone(1, 7, 6), slot(0, 9), slot(1, 8))))
}

// TestALogThatIsNotTheTables: what the table says of the transaction is what counts, and what the log says of its adds.
func TestALogThatIsNotTheTables(t *testing.T) {
	w := made(t, small, append(both(), plain(api.Begin, 1))...)
	if _, e := w.log.Append(after(3, add(1, 7, 0))); e != api.OK {
		t.Fatal(e)
	}
	w.run(1, 1)
	w.wantBehind(4, after(3, plain(api.Abort, 1)), after(5, undone(1, 7, 0)), after(6, plain(api.End, 1)))
	w.wantLive()
}

// TestPagesThatAreYounger: they stay as they are.
func TestPagesThatAreYounger(t *testing.T) {
	w, other := made(t, small, examples()...), made(t, small, examples()...)
	for range 9 {
		other.write(add(1, 7, 0))
	}
	was := []page.Page{other.page(0), other.page(1)}
	if n, err := undo.Run(w.log, other.pool, w.table, 2); n != 2 || err != nil {
		t.Errorf("P19.3: Run = %d, %v", n, err)
	}
	for n, x := range was {
		if got := other.page(n); got.LSN != x.LSN || !slices.Equal(got.Counters, x.Counters) || !slices.Equal(got.Groups, x.Groups) {
			t.Errorf("P19.3: page %d is %v, and was %v", n, got, x)
		}
	}
	if w.log.Last() != 10 || other.log.Last() != 15 {
		t.Errorf("P19.3: %d records and %d", w.log.Last(), other.log.Last())
	}
}
