package room_test

import (
	"math"
	"testing"

	"quota/api"
	"quota/room"
)

// wrongNumbers are no transaction's and no counter's.
var wrongNumbers = []int{math.MinInt, -1 << 32, -7, -1, 0, 1 << 31, 1<<32 + 1, math.MaxInt}

// kinds: all of a record, and some that are none.
var kinds = []api.Kind{
	math.MinInt, -1, 0, api.Begin, api.Create, api.Add, api.Undo, api.Commit, api.Abort, api.End, api.Checkpoint, 9, 1<<32 + 5, math.MaxInt,
}

// told: all that a room says of what is promised: in all, and to each of these numbers.
type told struct {
	all int
	of  [40]int
}

// tell: of the numbers around those that the tests give.
func tell(r *room.Room) told {
	out := told{all: r.Promised()}
	for tx := range out.of {
		out.of[tx] = r.Of(tx)
	}
	return out
}

// want: a call's answer, and behind it what is promised; one that is refused must have changed nothing.
func want(t *testing.T, r *room.Room, promise, call string, do func() api.Errno, fault api.Errno, promised int) {
	t.Helper()
	before := tell(r)
	if got := do(); got != fault {
		t.Errorf("%s: %s = %d, want %d", promise, call, got, fault)
	}
	if fault != api.OK && tell(r) != before {
		t.Errorf("P15.1: %s is refused, and has made %v of %v", call, tell(r), before)
	}
	if got := r.Promised(); got != promised {
		t.Errorf("P15.6: behind %s Promised() = %d, want %d", call, got, promised)
	}
}

func wantMay(t *testing.T, r *room.Room, free, parts, more int, fault api.Errno) {
	t.Helper()
	before := tell(r)
	if got := r.May(free, parts, more); got != fault {
		t.Errorf("P15.2: May(%d, %d, %d) = %d, want %d (promised %d)", free, parts, more, got, fault, before.all)
	}
	if tell(r) != before {
		t.Errorf("P15.2: May(%d, %d, %d) has made %v of %v", free, parts, more, tell(r), before)
	}
}

func wantBegin(t *testing.T, r *room.Room, tx int, fault api.Errno, promised int) {
	t.Helper()
	want(t, r, "P15.3", "Begin", func() api.Errno { return r.Begin(tx) }, fault, promised)
}

func wantHold(t *testing.T, r *room.Room, tx, counter int, fault api.Errno, promised int) {
	t.Helper()
	want(t, r, "P15.4", "Hold", func() api.Errno { return r.Hold(tx, counter) }, fault, promised)
}

func wantWrote(t *testing.T, r *room.Room, tx int, kind api.Kind, counter int, fault api.Errno, promised int) {
	t.Helper()
	want(t, r, "P15.5", "Wrote", func() api.Errno { return r.Wrote(tx, kind, counter) }, fault, promised)
}

func wantOf(t *testing.T, r *room.Room, tx, promised int) {
	t.Helper()
	if got := r.Of(tx); got != promised {
		t.Errorf("P15.6: Of(%d) = %d, want %d", tx, got, promised)
	}
}

func fresh(t *testing.T) *room.Room {
	t.Helper()
	r := room.New()
	if r == nil {
		t.Fatal("New() = nil")
	}
	return r
}

// holding: a room with one live transaction that holds these counters.
func holding(t *testing.T, tx int, counters ...int) *room.Room {
	t.Helper()
	r := fresh(t)
	wantBegin(t, r, tx, api.OK, 2)
	for k, c := range counters {
		wantHold(t, r, tx, c, api.OK, 3+k)
	}
	return r
}

// committed, undoing: likewise, but that its commit, its abort, is written.
func committed(t *testing.T, tx int, counters ...int) *room.Room {
	t.Helper()
	r := holding(t, tx, counters...)
	wantWrote(t, r, tx, api.Commit, 0, api.OK, 1)
	return r
}

func undoing(t *testing.T, tx int, counters ...int) *room.Room {
	t.Helper()
	r := holding(t, tx, counters...)
	wantWrote(t, r, tx, api.Abort, 0, api.OK, 1+len(counters))
	return r
}

// upTo: the numbers from 1 on.
func upTo(n int) []int {
	out := make([]int, n)
	for k := range out {
		out[k] = k + 1
	}
	return out
}

func TestExamples(t *testing.T) {
	r := fresh(t)
	wantBegin(t, r, 1, api.OK, 2)
	wantBegin(t, r, 1, api.ErrTwice, 2)
	wantBegin(t, r, 0, api.ErrPlace, 2)
	wantHold(t, r, 1, 7, api.OK, 3)
	wantHold(t, r, 1, 7, api.OK, 3)
	wantHold(t, r, 2, 7, api.ErrTx, 3)
	wantHold(t, r, 1, 0, api.ErrPlace, 3)
	wantBegin(t, r, 2, api.OK, 5)
	wantHold(t, r, 2, 7, api.OK, 6)
	wantHold(t, r, 2, 8, api.OK, 7)
	wantMay(t, r, 8, 1, 0, api.OK)
	wantMay(t, r, 8, 1, 1, api.ErrFull)
	wantMay(t, r, 7, 0, 0, api.OK)
	wantMay(t, r, -1, 0, 0, api.ErrPlace)
	wantMay(t, r, math.MaxInt, math.MaxInt, math.MaxInt, api.ErrFull)
	wantWrote(t, r, 1, api.Undo, 7, api.ErrKind, 7)
	wantWrote(t, r, 1, api.End, 0, api.ErrKind, 7)
	wantWrote(t, r, 1, api.Add, 7, api.ErrKind, 7)
	wantWrote(t, r, 1, api.Commit, 0, api.OK, 5)
	wantHold(t, r, 1, 9, api.ErrKind, 5)
	wantWrote(t, r, 1, api.Commit, 0, api.ErrKind, 5)
	wantWrote(t, r, 2, api.Abort, 0, api.OK, 4)
	wantWrote(t, r, 2, api.End, 0, api.ErrKind, 4)
	wantWrote(t, r, 2, api.Undo, 9, api.ErrCounter, 4)
	wantWrote(t, r, 2, api.Undo, 8, api.OK, 3)
	wantWrote(t, r, 2, api.Undo, 8, api.ErrCounter, 3)
	wantWrote(t, r, 2, api.Undo, 7, api.OK, 2)
	wantWrote(t, r, 2, api.End, 0, api.OK, 1)
	wantOf(t, r, 1, 1)
	wantOf(t, r, 2, 0)
	wantWrote(t, r, 1, api.End, 0, api.OK, 0)
	wantOf(t, r, 1, 0)
}

func TestMayOfAnEmptyRoom(t *testing.T) {
	r := fresh(t)
	wantMay(t, r, 0, 0, 0, api.OK)
	wantMay(t, r, 0, 1, 0, api.ErrFull)
	wantMay(t, r, 0, 0, 1, api.ErrFull)
	wantMay(t, r, 3, 1, 2, api.OK)
	wantMay(t, r, 2, 1, 2, api.ErrFull)
	wantMay(t, r, math.MaxInt, math.MaxInt, 0, api.OK)
	wantMay(t, r, math.MaxInt, 0, math.MaxInt, api.OK)
	wantMay(t, r, math.MaxInt, 1, math.MaxInt-1, api.OK)
	wantMay(t, r, math.MaxInt, 1, math.MaxInt, api.ErrFull)
	wantMay(t, r, math.MaxInt, math.MaxInt, 1, api.ErrFull)
}

func TestMayRefusesNumbersBelowZeroAheadOfAllElse(t *testing.T) {
	r := holding(t, 1, 7)
	for _, n := range []int{math.MinInt, math.MinInt + 3, -1 << 32, -1} {
		wantMay(t, r, n, 0, 0, api.ErrPlace)
		wantMay(t, r, n, math.MaxInt, math.MaxInt, api.ErrPlace)
		wantMay(t, r, 9, n, 0, api.ErrPlace)
		wantMay(t, r, 0, n, 1, api.ErrPlace)
		wantMay(t, r, 9, 0, n, api.ErrPlace)
		wantMay(t, r, 0, 9, n, api.ErrPlace)
		wantMay(t, r, math.MaxInt, math.MaxInt, n, api.ErrPlace)
		wantMay(t, r, n, n, n, api.ErrPlace)
	}
}

// TestMayCountsAllThree: each of them alone decides at the edge, at small numbers and at those that would wrap.
func TestMayCountsAllThree(t *testing.T) {
	r := holding(t, 1, 7, 8)
	for _, free := range []int{4, 5, 6, 4096, math.MaxInt - 1, math.MaxInt} {
		left := free - 4
		for _, parts := range []int{0, 1, left / 2, left - 1, left} {
			if parts < 0 || parts > left {
				continue
			}
			wantMay(t, r, free, parts, left-parts, api.OK)
			if left < math.MaxInt {
				wantMay(t, r, free, parts, left-parts+1, api.ErrFull)
				wantMay(t, r, free, parts+1, left-parts, api.ErrFull)
			}
			wantMay(t, r, free-1, parts, left-parts, api.ErrFull)
			wantMay(t, r, free, parts, math.MaxInt, api.ErrFull)
			wantMay(t, r, free, math.MaxInt, parts, api.ErrFull)
		}
	}
	for free := range 4 {
		wantMay(t, r, free, 0, 0, api.ErrFull)
	}
}

func TestBeginNeedsANumberWithinTheLimits(t *testing.T) {
	r := fresh(t)
	for _, tx := range wrongNumbers {
		wantBegin(t, r, tx, api.ErrPlace, 0)
		wantOf(t, r, tx, 0)
	}
	wantBegin(t, r, 1<<31-1, api.OK, 2)
	wantBegin(t, r, 1<<31-1, api.ErrTwice, 2)
	wantBegin(t, r, 1, api.OK, 4)
	wantOf(t, r, 1<<31-1, 2)
	wantOf(t, r, 1, 2)
}

func TestBeginIsRefusedWhileTheRoomHasTheTransaction(t *testing.T) {
	wantBegin(t, holding(t, 5, 7), 5, api.ErrTwice, 3)
	wantBegin(t, committed(t, 5, 7), 5, api.ErrTwice, 1)
	wantBegin(t, undoing(t, 5, 7), 5, api.ErrTwice, 2)
}

// TestANumberMayComeAgain: one that has ended begins as if it had never been: it holds nothing.
func TestANumberMayComeAgain(t *testing.T) {
	r := committed(t, 5, 7, 8)
	wantWrote(t, r, 5, api.End, 0, api.OK, 0)
	wantHold(t, r, 5, 7, api.ErrTx, 0)
	wantBegin(t, r, 5, api.OK, 2)
	wantHold(t, r, 5, 7, api.OK, 3)
	wantWrote(t, r, 5, api.Abort, 0, api.OK, 2)
	wantWrote(t, r, 5, api.Undo, 8, api.ErrCounter, 2)
	wantWrote(t, r, 5, api.Undo, 7, api.OK, 1)
	wantWrote(t, r, 5, api.End, 0, api.OK, 0)
	wantBegin(t, r, 5, api.OK, 2)
	wantOf(t, r, 5, 2)
}

// TestBeginOfTooMany: those that are committed or undoing are counted too, and the last error is that of the count.
func TestBeginOfTooMany(t *testing.T) {
	r := fresh(t)
	for tx := 1; tx <= 32; tx++ {
		wantBegin(t, r, tx, api.OK, 2*tx)
	}
	wantBegin(t, r, 33, api.ErrMany, 64)
	wantBegin(t, r, 32, api.ErrTwice, 64)
	for _, tx := range wrongNumbers {
		wantBegin(t, r, tx, api.ErrPlace, 64)
	}
	wantWrote(t, r, 3, api.Commit, 0, api.OK, 63)
	wantWrote(t, r, 4, api.Abort, 0, api.OK, 62)
	wantBegin(t, r, 33, api.ErrMany, 62)
	wantWrote(t, r, 4, api.End, 0, api.OK, 61)
	wantBegin(t, r, 33, api.OK, 63)
	wantBegin(t, r, 34, api.ErrMany, 63)
}

func TestHoldNeedsATransactionAndThenACounter(t *testing.T) {
	r := holding(t, 5, 7)
	for _, tx := range append([]int{1, 4, 6}, wrongNumbers...) {
		for _, c := range append([]int{1, 7}, wrongNumbers...) {
			wantHold(t, r, tx, c, api.ErrTx, 3)
		}
	}
	for _, c := range append([]int{1<<20 + 1, 1 << 24}, wrongNumbers...) {
		wantHold(t, r, 5, c, api.ErrPlace, 3)
		wantHold(t, committed(t, 5, 7), 5, c, api.ErrPlace, 1)
		wantHold(t, undoing(t, 5, 7), 5, c, api.ErrPlace, 2)
	}
	wantHold(t, r, 5, 1<<20, api.OK, 4)
	wantHold(t, r, 5, 1, api.OK, 5)
}

// TestHoldNeedsALiveTransaction: also of a counter that is held, or was.
func TestHoldNeedsALiveTransaction(t *testing.T) {
	c := committed(t, 5, 7)
	wantHold(t, c, 5, 7, api.ErrKind, 1)
	wantHold(t, c, 5, 8, api.ErrKind, 1)
	u := undoing(t, 5, 7, 9)
	wantHold(t, u, 5, 7, api.ErrKind, 3)
	wantHold(t, u, 5, 8, api.ErrKind, 3)
	wantWrote(t, u, 5, api.Undo, 7, api.OK, 2)
	wantHold(t, u, 5, 7, api.ErrKind, 2)
}

func TestHoldOfTooMany(t *testing.T) {
	r := holding(t, 5, upTo(64)...)
	wantBegin(t, r, 6, api.OK, 68)
	wantHold(t, r, 5, 65, api.ErrMany, 68)
	wantHold(t, r, 5, 0, api.ErrPlace, 68)
	for _, c := range upTo(64) {
		wantHold(t, r, 5, c, api.OK, 68)
	}
	wantHold(t, r, 6, 65, api.OK, 69)
	wantHold(t, r, 6, 1, api.OK, 70)
	wantOf(t, r, 5, 66)
	wantOf(t, r, 6, 4)
	wantHold(t, committed(t, 5, upTo(64)...), 5, 65, api.ErrKind, 1)
	wantHold(t, undoing(t, 5, upTo(64)...), 5, 65, api.ErrKind, 65)
}

func TestWroteNeedsATransactionAheadOfAllElse(t *testing.T) {
	r := holding(t, 5, 7)
	for _, tx := range append([]int{1, 4, 6}, wrongNumbers...) {
		for _, k := range kinds {
			wantWrote(t, r, tx, k, 7, api.ErrTx, 3)
			wantWrote(t, fresh(t), tx, k, 7, api.ErrTx, 0)
		}
	}
}

// TestWroteByStateAndKind: every kind in every state, with a counter that is held and with one that isn't.
func TestWroteByStateAndKind(t *testing.T) {
	type row struct {
		fault    api.Errno
		promised int
	}
	for _, c := range []struct {
		state string
		make  func() *room.Room
		other int // promised, if the call is refused
		taken map[api.Kind]row
	}{
		{"live", func() *room.Room { return holding(t, 5, 7, 8) }, 4, map[api.Kind]row{api.Commit: {0, 1}, api.Abort: {0, 3}}},
		{"live, nothing held", func() *room.Room { return holding(t, 5) }, 2, map[api.Kind]row{api.Commit: {0, 1}, api.Abort: {0, 1}}},
		{"committed", func() *room.Room { return committed(t, 5, 7, 8) }, 1, map[api.Kind]row{api.End: {0, 0}}},
		{"committed, nothing held", func() *room.Room { return committed(t, 5) }, 1, map[api.Kind]row{api.End: {0, 0}}},
		{"undoing", func() *room.Room { return undoing(t, 5, 7, 8) }, 3, map[api.Kind]row{api.Undo: {0, 2}}},
		{"undoing, nothing held", func() *room.Room { return undoing(t, 5) }, 1, map[api.Kind]row{api.Undo: {api.ErrCounter, 1}, api.End: {0, 0}}},
	} {
		for _, k := range kinds {
			x, taken := c.taken[k]
			if !taken {
				x = row{api.ErrKind, c.other}
			}
			t.Logf("%s, kind %d", c.state, k)
			wantWrote(t, c.make(), 5, k, 7, x.fault, x.promised)
			if k == api.Undo && x.fault == api.OK {
				x = row{api.ErrCounter, c.other}
			}
			for _, n := range append([]int{1, 9, 1 << 20}, wrongNumbers...) {
				wantWrote(t, c.make(), 5, k, n, x.fault, x.promised)
			}
		}
	}
}

// TestUndosAreOfEachCounterOnce: in any order; the end comes behind the last of them, and not ahead.
func TestUndosAreOfEachCounterOnce(t *testing.T) {
	for _, order := range [][]int{{1, 2, 3}, {1, 3, 2}, {2, 1, 3}, {2, 3, 1}, {3, 1, 2}, {3, 2, 1}} {
		r := undoing(t, 5, 1, 2, 3)
		for k, c := range order {
			wantWrote(t, r, 5, api.End, c, api.ErrKind, 4-k)
			wantWrote(t, r, 5, api.Undo, c, api.OK, 3-k)
			wantWrote(t, r, 5, api.Undo, c, api.ErrCounter, 3-k)
			wantOf(t, r, 5, 3-k)
		}
		wantWrote(t, r, 5, api.Commit, 0, api.ErrKind, 1)
		wantWrote(t, r, 5, api.Abort, 0, api.ErrKind, 1)
		wantWrote(t, r, 5, api.End, 0, api.OK, 0)
		wantWrote(t, r, 5, api.End, 0, api.ErrTx, 0)
	}
}

// TestTransactionsHoldEachForItself: of one counter, too.
func TestTransactionsHoldEachForItself(t *testing.T) {
	r := holding(t, 1, 7)
	wantBegin(t, r, 2, api.OK, 5)
	wantHold(t, r, 2, 7, api.OK, 6)
	wantWrote(t, r, 1, api.Abort, 0, api.OK, 5)
	wantWrote(t, r, 2, api.Undo, 7, api.ErrKind, 5)
	wantWrote(t, r, 1, api.Undo, 7, api.OK, 4)
	wantOf(t, r, 2, 3)
	wantHold(t, r, 2, 7, api.OK, 4)
	wantWrote(t, r, 2, api.Abort, 0, api.OK, 3)
	wantWrote(t, r, 2, api.Undo, 7, api.OK, 2)
	wantOf(t, r, 1, 1)
	wantOf(t, r, 2, 1)
}

func TestRoomsKnowNothingOfOneAnother(t *testing.T) {
	a, b := holding(t, 1, 7), fresh(t)
	wantWrote(t, b, 1, api.Commit, 0, api.ErrTx, 0)
	wantHold(t, b, 1, 8, api.ErrTx, 0)
	wantBegin(t, b, 1, api.OK, 2)
	wantWrote(t, b, 1, api.Commit, 0, api.OK, 1)
	wantOf(t, a, 1, 3)
	wantHold(t, a, 1, 8, api.OK, 4)
	wantOf(t, b, 1, 1)
}

func TestMostThatMayBePromised(t *testing.T) {
	r := fresh(t)
	promised := 0
	for k := range 32 {
		promised += 2
		wantBegin(t, r, 1<<31-1-k, api.OK, promised)
		for c := range 64 {
			promised++
			wantHold(t, r, 1<<31-1-k, 1<<20-c, api.OK, promised)
		}
	}
	wantMay(t, r, 32*66, 0, 0, api.OK)
	wantMay(t, r, 32*66-1, 0, 0, api.ErrFull)
	wantMay(t, r, math.MaxInt, math.MaxInt-32*66, 0, api.OK)
	wantMay(t, r, math.MaxInt, math.MaxInt-32*66, 1, api.ErrFull)
	wantMay(t, r, math.MaxInt, math.MaxInt-32*66+1, 0, api.ErrFull)
}
