package undo_test

import (
	"math"
	"reflect"
	"slices"
	"testing"

	"quota/api"
	"quota/undo"
)

func slot(page, index int) api.Slot { return api.Slot{Page: page, Index: index} }

// change: an Add or an Undo, with the slots of the worked examples.
func change(kind api.Kind, tx, id int, delta int64) api.Record {
	return api.Record{Kind: kind, Tx: tx, Where: slot(0, 0), Sums: slot(1, 0), Delta: delta, Counter: api.Counter{ID: id}}
}

func add(tx, id int, delta int64) api.Record { return change(api.Add, tx, id, delta) }

func undone(tx, id int, delta int64) api.Record { return change(api.Undo, tx, id, delta) }

// plain: a record of a kind that has its transaction alone, as far as it is asked here.
func plain(kind api.Kind, tx int) api.Record { return api.Record{Kind: kind, Tx: tx} }

// at: the same record with other slots.
func at(r api.Record, where, sums api.Slot) api.Record {
	r.Where, r.Sums = where, sums
	return r
}

func list(records ...api.Record) []api.Record { return records }

// same: two lists of records of which none has lists of its own.
func same(a, b []api.Record) bool {
	return len(a) == len(b) && (len(a) == 0 || reflect.DeepEqual(a, b))
}

func wantLeft(t *testing.T, records []api.Record, tx int, want ...api.Record) {
	t.Helper()
	if got, e := undo.Left(records, tx); e != api.OK || !same(got, want) {
		t.Errorf("P19.2: Left(%v, %d) = %v, %d, want %v", records, tx, got, e, want)
	}
}

func wantNone(t *testing.T, records []api.Record, tx int, want api.Errno) {
	t.Helper()
	got, e := undo.Left(records, tx)
	if e != want {
		t.Errorf("P19.2: Left(%v, %d) = %d, want %d", records, tx, e, want)
	}
	if len(got) > 0 {
		t.Errorf("P19.1: Left(%v, %d) = %v beside %d", records, tx, got, e)
	}
}

// some: the worked examples' list.
func some() []api.Record { return list(add(1, 7, 5), add(2, 7, 9), add(1, 7, -2), add(1, 3, 0)) }

func TestWorkedExamplesOfLeft(t *testing.T) {
	wantLeft(t, nil, 1)
	wantNone(t, nil, 0, api.ErrTx)
	wantNone(t, nil, 1<<31, api.ErrTx)
	wantLeft(t, some(), 1, undone(1, 3, 0), undone(1, 7, 3))
	wantLeft(t, append(some(), undone(1, 3, 0)), 1, undone(1, 7, 3))
	wantLeft(t, append(some(), undone(1, 3, 0), undone(1, 7, 3), plain(api.End, 1)), 1)
	wantLeft(t, list(add(1, 7, 5), plain(api.Commit, 1)), 1)
	wantNone(t, list(add(1, 7, 5), undone(1, 7, 4)), 1, api.ErrLog)
	wantNone(t, list(undone(1, 7, 0)), 1, api.ErrCounter)
	wantLeft(t, list(add(1, 7, 5), undone(1, 7, 5), add(1, 7, 1)), 1, undone(1, 7, 1))
	wantNone(t, list(add(1, 7, math.MaxInt64), add(1, 7, 1), add(1, 7, -1)), 1, api.ErrOverflow)
	moved := list(at(add(1, 7, 5), slot(0, 2), slot(1, 0)), at(add(1, 7, 1), slot(0, 3), slot(1, 0)))
	wantLeft(t, moved, 1, at(undone(1, 7, 6), slot(0, 3), slot(1, 0)))
}

// TestNumbersOfTransactions: the number comes ahead of all records.
func TestNumbersOfTransactions(t *testing.T) {
	wrong := list(add(1, 7, 5), undone(1, 7, 4))
	for _, tx := range []int{math.MinInt, -1 << 32, -1, 0, 1 << 31, 1<<32 + 1, math.MaxInt} {
		for _, records := range [][]api.Record{nil, {}, some(), wrong, list(add(tx, 7, 5)), list(undone(tx, 7, 5))} {
			wantNone(t, records, tx, api.ErrTx)
		}
	}
	for _, tx := range []int{1, 2, 1<<31 - 2, 1<<31 - 1} {
		wantLeft(t, nil, tx)
		wantLeft(t, list(add(tx, 7, 5)), tx, undone(tx, 7, 5))
		wantNone(t, list(undone(tx, 7, 5)), tx, api.ErrCounter)
	}
	wantLeft(t, some(), 3)
}

// TestOtherTransactions: whatever their records say.
func TestOtherTransactions(t *testing.T) {
	for _, tx := range []int{math.MinInt, -1, 0, 2, 3, 1<<32 + 1, math.MaxInt} {
		for _, r := range []api.Record{
			add(tx, 7, 9), undone(tx, 7, 5), undone(tx, 7, 6), undone(tx, 8, 5), plain(api.Commit, tx), plain(api.Abort, tx), plain(api.End, tx),
		} {
			wantLeft(t, list(add(1, 7, 5), r, add(1, 8, 1)), 1, undone(1, 7, 5), undone(1, 8, 1))
			wantLeft(t, list(r, add(1, 7, math.MaxInt64), r, r), 1, undone(1, 7, math.MaxInt64))
		}
		wantLeft(t, list(add(tx, 7, math.MaxInt64), add(tx, 7, 1)), 1)
	}
}

// TestKindsThatArePassedOver: all but three, those that are none among them.
func TestKindsThatArePassedOver(t *testing.T) {
	for _, kind := range []api.Kind{
		math.MinInt, -3, -1, 0, api.Begin, api.Create, api.Abort, api.End, api.Checkpoint, 9, 99, 1<<8 + 3, 1<<32 + 3, 1<<32 + 5, math.MaxInt,
	} {
		for _, delta := range []int64{0, 5, -5, math.MaxInt64} {
			r := change(kind, 1, 7, delta)
			wantLeft(t, list(r), 1)
			wantLeft(t, list(add(1, 7, 5), r, add(1, 7, 1), r), 1, undone(1, 7, 6))
			wantNone(t, list(r, undone(1, 7, delta)), 1, api.ErrCounter)
		}
	}
}

// TestEdgesOfNets: each net on the way must fit, that of each counter by itself.
func TestEdgesOfNets(t *testing.T) {
	most, least := int64(math.MaxInt64), int64(math.MinInt64)
	for _, c := range []struct {
		deltas []int64
		net    int64
		fits   bool
	}{
		{[]int64{0}, 0, true},
		{[]int64{0, 0, 0}, 0, true},
		{[]int64{most}, most, true},
		{[]int64{least}, least, true},
		{[]int64{most, 0}, most, true},
		{[]int64{least, 0}, least, true},
		{[]int64{most - 1, 1}, most, true},
		{[]int64{1, most - 1}, most, true},
		{[]int64{least + 1, -1}, least, true},
		{[]int64{-1, least + 1}, least, true},
		{[]int64{most, least}, -1, true},
		{[]int64{least, most}, -1, true},
		{[]int64{0, least}, least, true},
		{[]int64{0, most}, most, true},
		{[]int64{most, -most, -most, -1}, least, true},
		{[]int64{least, most, most, 1}, most, true},
		{[]int64{most, 1}, 0, false},
		{[]int64{1, most}, 0, false},
		{[]int64{most, most}, 0, false},
		{[]int64{least, -1}, 0, false},
		{[]int64{-1, least}, 0, false},
		{[]int64{least, least}, 0, false},
		{[]int64{most, 1, -1}, 0, false},
		{[]int64{least, -1, 1}, 0, false},
		{[]int64{least, least, most}, 0, false},
	} {
		var one, two []api.Record
		for _, d := range c.deltas {
			one = append(one, add(1, 7, d))
			two = append(two, add(1, 7, d), add(2, 7, d), add(1, 8, -1))
		}
		if !c.fits {
			wantNone(t, one, 1, api.ErrOverflow)
			wantNone(t, two, 1, api.ErrOverflow)
			continue
		}
		wantLeft(t, one, 1, undone(1, 7, c.net))
		wantLeft(t, two, 1, undone(1, 7, c.net), undone(1, 8, -int64(len(c.deltas))))
		wantLeft(t, append(one, undone(1, 7, c.net)), 1)
	}
}

// TestUndosThatAreWrong: each field of which it is told by itself.
func TestUndosThatAreWrong(t *testing.T) {
	ours := at(add(1, 7, 5), slot(3, 4), slot(5, 6))
	back := at(undone(1, 7, 5), slot(3, 4), slot(5, 6))
	wantLeft(t, list(ours, back), 1)
	for _, turn := range []func(r *api.Record){
		func(r *api.Record) { r.Delta = 4 },
		func(r *api.Record) { r.Delta = 6 },
		func(r *api.Record) { r.Delta = -5 },
		func(r *api.Record) { r.Delta = 0 },
		func(r *api.Record) { r.Delta = 5 + 1<<32 },
		func(r *api.Record) { r.Delta = math.MinInt64 },
		func(r *api.Record) { r.Where.Page = 2 },
		func(r *api.Record) { r.Where.Index = 5 },
		func(r *api.Record) { r.Where = slot(4, 3) },
		func(r *api.Record) { r.Sums.Page = 4 },
		func(r *api.Record) { r.Sums.Index = 0 },
		func(r *api.Record) { r.Where, r.Sums = r.Sums, r.Where },
	} {
		wrong := back
		turn(&wrong)
		wantNone(t, list(ours, wrong), 1, api.ErrLog)
		wantNone(t, list(ours, wrong, back), 1, api.ErrLog)
		wantNone(t, list(ours, back, wrong), 1, api.ErrCounter)
		wantNone(t, list(wrong), 1, api.ErrCounter)
		wrong.Tx = 2
		wantLeft(t, list(ours, wrong), 1, back)
	}
	for _, id := range []int{6, 8, 0, -7, 7 + 1<<32, math.MinInt} {
		wrong := back
		wrong.Counter.ID = id
		wantNone(t, list(ours, wrong), 1, api.ErrCounter)
	}
	zero := list(add(1, 7, 5), add(1, 7, -5))
	wantLeft(t, append(zero, undone(1, 7, 0)), 1)
	wantNone(t, append(zero, undone(1, 7, 5)), 1, api.ErrLog)
	wantNone(t, append(zero, undone(1, 7, 0), undone(1, 7, 0)), 1, api.ErrCounter)
}

// TestTheFirstFaultIsTheAnswer: by the records' order, not by the errors'.
func TestTheFirstFaultIsTheAnswer(t *testing.T) {
	faults := []struct {
		r api.Record
		e api.Errno
	}{{add(1, 7, math.MaxInt64), api.ErrOverflow}, {undone(1, 9, 0), api.ErrCounter}, {undone(1, 7, 4), api.ErrLog}}
	for _, a := range faults {
		for _, b := range faults {
			wantNone(t, list(add(1, 7, 5), a.r, b.r), 1, a.e)
			wantNone(t, list(add(1, 7, 5), a.r, plain(api.Commit, 1), b.r), 1, a.e)
		}
	}
}

// TestSlots: those of the last Add, both of them, as long as the counter is held.
func TestSlots(t *testing.T) {
	first, second := at(add(1, 7, 5), slot(2, 3), slot(4, 5)), at(add(1, 7, -5), slot(6, 7), slot(8, 9))
	wantLeft(t, list(first, second), 1, at(undone(1, 7, 0), slot(6, 7), slot(8, 9)))
	wantLeft(t, list(second, first), 1, at(undone(1, 7, 0), slot(2, 3), slot(4, 5)))
	wantLeft(t, list(first, second, first), 1, at(undone(1, 7, 5), slot(2, 3), slot(4, 5)))
	wantNone(t, list(first, second, at(undone(1, 7, 0), slot(2, 3), slot(4, 5))), 1, api.ErrLog)
	wantLeft(t, list(first, second, at(undone(1, 7, 0), slot(6, 7), slot(8, 9))), 1)
	wantLeft(t, list(first, at(undone(1, 7, 5), slot(2, 3), slot(4, 5)), second), 1, at(undone(1, 7, -5), slot(6, 7), slot(8, 9)))
	wantLeft(t, list(first, plain(api.Commit, 1), second), 1, at(undone(1, 7, -5), slot(6, 7), slot(8, 9)))
	odd := at(add(1, 7, 5), slot(-1, math.MaxInt), slot(-1, math.MinInt))
	wantLeft(t, list(odd), 1, at(undone(1, 7, 5), slot(-1, math.MaxInt), slot(-1, math.MinInt)))
}

// TestCommits: what is behind one is held anew, from 0 on.
func TestCommits(t *testing.T) {
	wantLeft(t, append(some(), plain(api.Commit, 1)), 1)
	wantLeft(t, append(some(), plain(api.Commit, 1)), 2, undone(2, 7, 9))
	wantLeft(t, append(some(), plain(api.Commit, 2)), 1, undone(1, 3, 0), undone(1, 7, 3))
	wantLeft(t, append(some(), plain(api.Commit, 1), add(1, 7, 4)), 1, undone(1, 7, 4))
	wantNone(t, append(some(), plain(api.Commit, 1), undone(1, 7, 3)), 1, api.ErrCounter)
	wantLeft(t, list(add(1, 7, math.MaxInt64), plain(api.Commit, 1), add(1, 7, 1)), 1, undone(1, 7, 1))
	wantLeft(t, list(plain(api.Commit, 1), plain(api.Commit, 1)), 1)
	wantLeft(t, append(some(), plain(api.Commit, 1), plain(api.Begin, 1), plain(api.Abort, 1)), 1)
}

// TestAnEndLetsNothingGo: neither does an Abort.
func TestAnEndLetsNothingGo(t *testing.T) {
	for _, kind := range []api.Kind{api.End, api.Abort, api.Begin, api.Checkpoint} {
		wantLeft(t, append(some(), plain(kind, 1)), 1, undone(1, 3, 0), undone(1, 7, 3))
		wantLeft(t, append(some(), plain(kind, 1), add(1, 7, 1)), 1, undone(1, 3, 0), undone(1, 7, 4))
	}
}

// TestNothingElseIsLookedAt: nor is any of it in the answer.
func TestNothingElseIsLookedAt(t *testing.T) {
	full := api.Record{
		LSN: -4, Prev: 1 << 40, Counter: api.Counter{ID: 7, Group: -8, Bounds: api.Range{Lo: 9, Hi: -9}, Value: 77},
		Points: api.Points{Live: []api.Live{{Tx: 1, Last: 2}}, Dirty: []api.Dirty{{Page: 3, Since: 4}}, Next: -1},
	}
	with := func(kind api.Kind, delta int64) api.Record {
		r := full
		r.Kind, r.Tx, r.Delta = kind, 1, delta
		return r
	}
	bare := func(delta int64) api.Record {
		return api.Record{Kind: api.Undo, Tx: 1, Delta: delta, Counter: api.Counter{ID: 7}}
	}
	wantLeft(t, list(with(api.Add, 5)), 1, bare(5))
	wantLeft(t, list(with(api.Add, 5), with(api.Add, 6)), 1, bare(11))
	wantLeft(t, list(with(api.Add, 5), with(api.Undo, 5)), 1)
	wantLeft(t, list(with(api.Add, 5), bare(5)), 1)
	wantLeft(t, list(with(api.Add, 5), with(api.Commit, 3)), 1)
	late, early := with(api.Add, 5), with(api.Undo, 5)
	late.LSN, early.LSN = 9, 2
	wantLeft(t, list(late, early), 1)
	wantNone(t, list(early, late), 1, api.ErrCounter)
}

// TestByRisingNumber: whatever numbers there are, and in whichever order they came.
func TestByRisingNumber(t *testing.T) {
	numbers := []int{1 << 20, 7, math.MaxInt, -3, 1, 0, 1<<20 + 1, math.MinInt, 2, 1 << 32, -1 << 31}
	for turns := range numbers {
		var records, want []api.Record
		for k := range numbers {
			id := numbers[(k+turns)%len(numbers)]
			records = append(records, add(5, id, int64(id)))
			want = append(want, undone(5, id, int64(id)))
		}
		slices.SortFunc(want, func(a, b api.Record) int {
			if a.Counter.ID < b.Counter.ID {
				return -1
			}
			return 1
		})
		wantLeft(t, records, 5, want...)
	}
}

// TestManyRecords: there is no bound to how many are held, and time grows with the records alone.
func TestManyRecords(t *testing.T) {
	const count = 60_000
	var records, want []api.Record
	for id := count; id > 0; id-- {
		records = append(records, add(1, id, int64(id)))
	}
	for id := 1; id <= count; id++ {
		want = append(want, undone(1, id, int64(id)))
	}
	if got, e := undo.Left(records, 1); e != api.OK || !slices.EqualFunc(got, want, func(a, b api.Record) bool { return a.Delta == b.Delta && a.Counter == b.Counter }) {
		t.Fatalf("P19.2: of %d counters Left answers %d, %d", count, len(got), e)
	}
	for range count {
		records = append(records, plain(api.Commit, 1), add(1, 3, 1))
	}
	wantLeft(t, records[len(records)-3:], 1, undone(1, 3, 1))
	if got, e := undo.Left(records, 1); e != api.OK || !same(got, list(undone(1, 3, 1))) {
		t.Fatalf("P19.2: behind many commits Left answers %d, %d", len(got), e)
	}
}
