package txns_test

import (
	"math"
	"slices"
	"testing"

	"quota/api"
	"quota/txns"
)

// fresh: a table that must be one, in which nobody lives.
func fresh(t *testing.T, next int) *txns.Table {
	t.Helper()
	x, fault := txns.New(next)
	if x == nil || fault != api.OK {
		t.Fatalf("P13.2: New(%d) = %v, %d", next, x, fault)
	}
	return x
}

func loaded(t *testing.T, next int, live ...api.Live) *txns.Table {
	t.Helper()
	x, fault := txns.Load(api.Points{Live: live, Next: next})
	if x == nil || fault != api.OK {
		t.Fatalf("P13.2: Load(%v, %d) = %v, %d", live, next, x, fault)
	}
	return x
}

func open(tx, last int) api.Live      { return api.Live{Tx: tx, Last: last} }
func committed(tx, last int) api.Live { return api.Live{Tx: tx, Last: last, Committed: true} }
func undoing(tx, last int) api.Live   { return api.Live{Tx: tx, Last: last, Undoing: true} }

func rec(kind api.Kind, tx, prev, lsn int) api.Record {
	return api.Record{Kind: kind, Tx: tx, Prev: prev, LSN: lsn}
}

// told: all that a table says by itself.
type told struct {
	live []api.Live
	next int
}

func tell(x *txns.Table) told { return told{x.Live(), x.Next()} }

func (a told) same(b told) bool { return slices.Equal(a.live, b.live) && a.next == b.next }

func wantState(t *testing.T, x *txns.Table, next int, live ...api.Live) {
	t.Helper()
	if got := tell(x); !got.same(told{live, next}) {
		t.Errorf("P13.3: told %v, want %v", got, told{live, next})
	}
	for _, l := range live {
		wantGet(t, x, l)
	}
	wantNoGet(t, x, next)
}

func wantGet(t *testing.T, x *txns.Table, want api.Live) {
	t.Helper()
	if got, fault := x.Get(want.Tx); got != want || fault != api.OK {
		t.Errorf("P13.5: Get(%d) = %v, %d, want %v", want.Tx, got, fault, want)
	}
}

func wantNoGet(t *testing.T, x *txns.Table, tx int) {
	t.Helper()
	if got, fault := x.Get(tx); got != (api.Live{}) || fault != api.ErrTx {
		t.Errorf("P13.5: Get(%d) = %v, %d, want ErrTx", tx, got, fault)
	}
}

func wantBegin(t *testing.T, x *txns.Table, lsn, want int) {
	t.Helper()
	if got, fault := x.Begin(lsn); got != want || fault != api.OK {
		t.Errorf("P13.4: Begin(%d) = %d, %d, want %d", lsn, got, fault, want)
	}
	wantGet(t, x, open(want, lsn))
}

func wantNoBegin(t *testing.T, x *txns.Table, lsn int, want api.Errno) {
	t.Helper()
	before := tell(x)
	if got, fault := x.Begin(lsn); got != 0 || fault != want {
		t.Errorf("P13.4: Begin(%d) = %d, %d, want %d", lsn, got, fault, want)
	}
	if now := tell(x); !now.same(before) {
		t.Errorf("P13.1: a refused Begin(%d) has made %v of %v", lsn, now, before)
	}
}

func wantNote(t *testing.T, x *txns.Table, r api.Record, want api.Errno) {
	t.Helper()
	before := tell(x)
	if got := x.Note(r); got != want {
		t.Errorf("P13.6: Note(%v of %d, Prev %d, LSN %d) = %d, want %d", r.Kind, r.Tx, r.Prev, r.LSN, got, want)
	}
	if now := tell(x); want != api.OK && !now.same(before) {
		t.Errorf("P13.1: a refused Note(%v) has made %v of %v", r, now, before)
	}
}

// wrongNumbers: of LSNs and of transactions.
var wrongNumbers = []int{math.MinInt, -1 << 32, -1, 0, 1 << 31, 1<<31 + 1, 1<<32 + 1, math.MaxInt}

func TestNewNeedsANumberWithinTheLimits(t *testing.T) {
	for _, n := range []int{math.MinInt, -1 << 32, -1, 0, 1<<31 + 1, 1<<32 + 1, math.MaxInt} {
		if x, fault := txns.New(n); x != nil || fault != api.ErrPlace {
			t.Errorf("P13.2: New(%d) = %v, %d, want ErrPlace", n, x, fault)
		}
	}
	for _, n := range []int{1, 2, 77, 1<<31 - 1, 1 << 31} {
		wantState(t, fresh(t, n), n)
	}
}

func TestExampleOfTheChapter(t *testing.T) {
	x := fresh(t, 1)
	wantNoBegin(t, x, 0, api.ErrPlace)
	wantBegin(t, x, 3, 1)
	wantBegin(t, x, 4, 2)
	wantState(t, x, 3, open(1, 3), open(2, 4))
	wantNote(t, x, rec(api.Add, 1, 3, 5), api.OK)
	wantGet(t, x, open(1, 5))
	wantNote(t, x, rec(api.Add, 1, 3, 6), api.ErrPlace)
	wantNote(t, x, rec(api.Add, 1, 5, 5), api.ErrPlace)
	wantNote(t, x, rec(api.Add, 9, 5, 6), api.ErrTx)
	wantNote(t, x, rec(api.Undo, 1, 5, 6), api.ErrKind)
	wantNote(t, x, rec(api.End, 1, 5, 6), api.ErrKind)
	wantNote(t, x, rec(api.Commit, 1, 5, 6), api.OK)
	wantNote(t, x, rec(api.Add, 1, 6, 7), api.ErrKind)
	wantGet(t, x, committed(1, 6))
	wantNote(t, x, rec(api.Abort, 2, 4, 7), api.OK)
	wantNote(t, x, rec(api.Undo, 2, 7, 9), api.OK)
	wantNote(t, x, rec(api.End, 1, 6, 10), api.OK)
	wantNoGet(t, x, 1)
	wantState(t, x, 3, undoing(2, 9))
	wantNote(t, x, rec(api.Begin, 5, 0, 11), api.ErrTx)
	wantNote(t, x, rec(api.Begin, 3, 0, 11), api.OK)
	wantState(t, x, 4, undoing(2, 9), open(3, 11))
	wantNote(t, x, rec(0, 99, 0, 1), api.ErrKind)
	wantNote(t, x, rec(0, 99, 0, 0), api.ErrPlace)
	wantNote(t, x, rec(api.Checkpoint, 0, 0, 2), api.OK)
	wantState(t, x, 4, undoing(2, 9), open(3, 11))
}

func TestBeginNeedsAnLSN(t *testing.T) {
	x := fresh(t, 1)
	for _, lsn := range wrongNumbers {
		wantNoBegin(t, x, lsn, api.ErrPlace)
	}
	wantBegin(t, x, 1<<31-1, 1)
	wantBegin(t, x, 1, 2)
	wantBegin(t, x, 1, 3)
	wantState(t, x, 4, open(1, 1<<31-1), open(2, 1), open(3, 1))
}

// wantMany: nobody more may begin, either way, and a wrong LSN is told first.
func wantMany(t *testing.T, x *txns.Table) {
	t.Helper()
	wantNoBegin(t, x, 1, api.ErrMany)
	wantNoBegin(t, x, 1<<31-1, api.ErrMany)
	wantNoBegin(t, x, 0, api.ErrPlace)
	wantNoBegin(t, x, 1<<31, api.ErrPlace)
	wantNote(t, x, rec(api.Begin, x.Next(), 0, 1), api.ErrMany)
	wantNote(t, x, rec(api.Begin, x.Next(), 0, 0), api.ErrPlace)
	wantNote(t, x, rec(api.Begin, x.Next()-1, 0, 1), api.ErrTx)
	wantNote(t, x, rec(api.Begin, x.Next()+1, 0, 1), api.ErrTx)
}

func TestAsManyAsMayLive(t *testing.T) {
	x := fresh(t, 1)
	for tx := 1; tx <= 32; tx++ {
		wantBegin(t, x, 100-tx, tx)
	}
	wantMany(t, x)
	wantNote(t, x, rec(api.Commit, 7, 93, 200), api.OK)
	wantMany(t, x)
	wantNote(t, x, rec(api.End, 7, 200, 201), api.OK)
	wantNote(t, x, rec(api.Begin, 33, 0, 202), api.OK)
	wantGet(t, x, open(33, 202))
	wantMany(t, x)
	if live := x.Live(); len(live) != 32 || live[0] != open(1, 99) || live[31] != open(33, 202) {
		t.Errorf("P13.3: Live = %v", live)
	}
}

func TestTheLastNumber(t *testing.T) {
	x := fresh(t, 1<<31-2)
	wantBegin(t, x, 5, 1<<31-2)
	wantNote(t, x, rec(api.Begin, 1<<31-1, 0, 6), api.OK)
	wantState(t, x, 1<<31, open(1<<31-2, 5), open(1<<31-1, 6))
	wantMany(t, x)
	wantNote(t, x, rec(api.Abort, 1<<31-1, 6, 7), api.OK)
	wantNote(t, x, rec(api.End, 1<<31-1, 7, 8), api.OK)
	wantState(t, x, 1<<31, open(1<<31-2, 5))
	wantMany(t, x)
	wantMany(t, fresh(t, 1<<31))
}

func TestGetOfNumbersThatNobodyHas(t *testing.T) {
	x := loaded(t, 9, open(2, 3), committed(5, 7))
	for _, tx := range append([]int{1, 3, 4, 6, 8, 9, 10}, wrongNumbers...) {
		wantNoGet(t, x, tx)
	}
	wantState(t, x, 9, open(2, 3), committed(5, 7))
}

// TestNoteTellsTheFirstError: where several apply.
func TestNoteTellsTheFirstError(t *testing.T) {
	x := loaded(t, 4, open(1, 5), committed(2, 6), undoing(3, 7))
	for _, lsn := range wrongNumbers {
		for kind := api.Kind(-1); kind <= 9; kind++ {
			for _, tx := range []int{-1, 0, 1, 2, 3, 4, 5} {
				wantNote(t, x, rec(kind, tx, 5, lsn), api.ErrPlace)
			}
		}
	}
	for _, kind := range []api.Kind{math.MinInt, -1, 0, 9, 10, 1<<32 + 1, math.MaxInt} {
		for _, tx := range []int{0, 1, 2, 4, 99} {
			wantNote(t, x, rec(kind, tx, 5, 8), api.ErrKind)
		}
	}
	chained := []api.Kind{api.Add, api.Undo, api.Commit, api.Abort, api.End}
	for _, kind := range chained {
		for _, tx := range append([]int{4, 5, 99}, wrongNumbers...) {
			wantNote(t, x, rec(kind, tx, 0, 1), api.ErrTx)
		}
		for _, prev := range append([]int{4, 6, 7, 8}, wrongNumbers...) {
			wantNote(t, x, rec(kind, 1, prev, 8), api.ErrPlace)
		}
		for _, lsn := range []int{1, 4, 5} {
			wantNote(t, x, rec(kind, 1, 5, lsn), api.ErrPlace)
		}
		wantNote(t, x, rec(kind, 2, 6, 6), api.ErrPlace)
		wantNote(t, x, rec(kind, 3, 6, 8), api.ErrPlace)
	}
	for _, tx := range append([]int{1, 2, 3, 5}, wrongNumbers...) {
		wantNote(t, x, rec(api.Begin, tx, 0, 8), api.ErrTx)
	}
	wantState(t, x, 4, open(1, 5), committed(2, 6), undoing(3, 7))
}

// TestWhichKindMayCome: of each kind, what becomes of a transaction that is open, committed or being taken back.
func TestWhichKindMayCome(t *testing.T) {
	states := []api.Live{open(2, 5), committed(2, 5), undoing(2, 5)}
	gone := []api.Live{}
	for _, c := range []struct {
		kind api.Kind
		want [3][]api.Live // nil: refused
	}{
		{api.Add, [3][]api.Live{{open(2, 9)}, nil, nil}},
		{api.Undo, [3][]api.Live{nil, nil, {undoing(2, 9)}}},
		{api.Commit, [3][]api.Live{{committed(2, 9)}, nil, nil}},
		{api.Abort, [3][]api.Live{{undoing(2, 9)}, nil, nil}},
		{api.End, [3][]api.Live{nil, gone, gone}},
	} {
		for k, from := range states {
			x := loaded(t, 4, open(1, 5), from, committed(3, 5))
			fault, behind := api.OK, c.want[k]
			if behind == nil {
				fault, behind = api.ErrKind, []api.Live{from}
			}
			wantNote(t, x, rec(c.kind, 2, 5, 9), fault)
			wantState(t, x, 4, slices.Concat([]api.Live{open(1, 5)}, behind, []api.Live{committed(3, 5)})...)
		}
	}
}

// TestKindsThatChangeNothing: whatever stands in them.
func TestKindsThatChangeNothing(t *testing.T) {
	x := loaded(t, 4, open(1, 5), committed(2, 6), undoing(3, 7))
	for _, kind := range []api.Kind{api.Create, api.Checkpoint} {
		for _, lsn := range []int{1, 5, 8, 1<<31 - 1} {
			for _, n := range append([]int{1, 2, 3, 4, 5, 99}, wrongNumbers...) {
				wantNote(t, x, rec(kind, n, n, lsn), api.OK)
				wantState(t, x, 4, open(1, 5), committed(2, 6), undoing(3, 7))
			}
		}
	}
}

// TestNoteOfABegin: Prev is nothing to it, nor is its LSN's place among the others'.
func TestNoteOfABegin(t *testing.T) {
	x := loaded(t, 2, open(1, 50))
	wantNote(t, x, rec(api.Begin, 2, 0, 50), api.OK)
	wantNote(t, x, rec(api.Begin, 3, 77, 1), api.OK)
	wantNote(t, x, rec(api.Begin, 4, -1, 1<<31-1), api.OK)
	wantState(t, x, 5, open(1, 50), open(2, 50), open(3, 1), open(4, 1<<31-1))
	wantBegin(t, x, 2, 5)
}

// TestOtherFieldsAreNotLookedAt: no record of the log would have these.
func TestOtherFieldsAreNotLookedAt(t *testing.T) {
	odd := api.Record{
		Where: api.Slot{Page: -1, Index: math.MaxInt}, Sums: api.Slot{Page: -1, Index: math.MinInt}, Delta: math.MinInt64,
		Counter: api.Counter{ID: -1, Group: 1 << 40, Bounds: api.Range{Lo: 1}, Value: 7},
		Points:  api.Points{Live: []api.Live{{Tx: 1, Last: 99, Committed: true, Undoing: true}}, Dirty: []api.Dirty{{Page: -1}}, Next: 77},
	}
	x := fresh(t, 1)
	lsn := 0
	note := func(kind api.Kind, tx int) {
		t.Helper()
		r := odd
		r.Kind, r.Tx, r.Prev, r.LSN = kind, tx, lsn, lsn+1
		wantNote(t, x, r, api.OK)
		lsn++
	}
	note(api.Begin, 1)
	note(api.Add, 1)
	wantState(t, x, 2, open(1, 2))
	note(api.Abort, 1)
	note(api.Undo, 1)
	wantState(t, x, 2, undoing(1, 4))
	note(api.End, 1)
	note(api.Checkpoint, 1)
	note(api.Create, 1)
	note(api.Begin, 2)
	note(api.Commit, 2)
	wantState(t, x, 3, committed(2, 9))
}

// TestTheLastLSN: a chain may come to it, and goes no further.
func TestTheLastLSN(t *testing.T) {
	x := fresh(t, 1)
	wantBegin(t, x, 1<<31-3, 1)
	wantNote(t, x, rec(api.Add, 1, 1<<31-3, 1<<31-2), api.OK)
	wantNote(t, x, rec(api.Commit, 1, 1<<31-2, 1<<31-1), api.OK)
	wantState(t, x, 2, committed(1, 1<<31-1))
	wantNote(t, x, rec(api.End, 1, 1<<31-1, 1<<31), api.ErrPlace)
	wantNote(t, x, rec(api.End, 1, 1<<31-1, 1<<31-1), api.ErrPlace)
	wantState(t, x, 2, committed(1, 1<<31-1))
}
