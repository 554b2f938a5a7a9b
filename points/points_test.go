package points_test

import (
	"math"
	"slices"
	"testing"

	"quota/api"
	"quota/points"
)

// wrongPages and wrongRecords are no page's and no record's number.
var (
	wrongPages   = []int{math.MinInt, -1 << 32, -64, -1, 64, 65, 1 << 31, 1 << 32, 1<<32 + 1, math.MaxInt}
	wrongRecords = []int{math.MinInt, -1 << 32, -7, -1, 0, 1 << 31, 1<<31 + 1, 1 << 32, 1<<32 + 1, math.MaxInt}
)

// dirty: a list, of page, since, page, since, ..
func dirty(numbers ...int) []api.Dirty {
	var out []api.Dirty
	for k := 0; k < len(numbers); k += 2 {
		out = append(out, api.Dirty{Page: numbers[k], Since: numbers[k+1]})
	}
	return out
}

func open(tx, last int) api.Live      { return api.Live{Tx: tx, Last: last} }
func committed(tx, last int) api.Live { return api.Live{Tx: tx, Last: last, Committed: true} }
func undoing(tx, last int) api.Live   { return api.Live{Tx: tx, Last: last, Undoing: true} }

// point: of these transactions, with nothing dirty.
func point(next int, live ...api.Live) api.Points { return api.Points{Live: live, Next: next} }

// ofDirty: a checkpoint of these pages, while nobody lives.
func ofDirty(numbers ...int) api.Points { return api.Points{Dirty: dirty(numbers...), Next: 1} }

func wantCheck(t *testing.T, p api.Points, want api.Errno) {
	t.Helper()
	if got := points.Check(p); got != want {
		t.Errorf("P16.3: Check(%v) = %d, want %d", p, got, want)
	}
}

func wantFrom(t *testing.T, p api.Points, want int) {
	t.Helper()
	if got := points.From(p); got != want {
		t.Errorf("P16.4: From(%v) = %d, want %d", p, got, want)
	}
}

func wantMerge(t *testing.T, a, b, want []api.Dirty) {
	t.Helper()
	if got, e := points.Merge(a, b); !slices.Equal(got, want) || e != api.OK {
		t.Errorf("P16.5: Merge(%v, %v) = %v, %d, want %v", a, b, got, e, want)
	}
}

func wantNoMerge(t *testing.T, a, b []api.Dirty, want api.Errno) {
	t.Helper()
	if got, e := points.Merge(a, b); len(got) != 0 || e != want {
		t.Errorf("P16.5: Merge(%v, %v) = %v, %d, want nothing and %d", a, b, got, e, want)
	}
}

func TestExamples(t *testing.T) {
	wantCheck(t, api.Points{}, api.ErrField)
	wantCheck(t, point(1), api.OK)
	wantCheck(t, point(1, open(1, 1)), api.ErrField)
	wantFrom(t, api.Points{}, 0)
	wantFrom(t, ofDirty(3, 9, 1, 4), 4)
	wantMerge(t, dirty(3, 9, 1, 4), dirty(3, 2), dirty(1, 4, 3, 2))
	wantNoMerge(t, dirty(3, 9), dirty(64, 1), api.ErrPlace)
	wantNoMerge(t, dirty(3, 0), dirty(64, 1), api.ErrField)
	wantMerge(t, nil, nil, nil)
}

func TestCheckOfTheNextNumber(t *testing.T) {
	for _, n := range []int{math.MinInt, -1 << 32, -1, 0, 1<<31 + 1, 1 << 32, 1<<32 + 1, math.MaxInt} {
		wantCheck(t, point(n), api.ErrField)
	}
	for _, n := range []int{1, 2, 77, 1<<31 - 1, 1 << 31} {
		wantCheck(t, point(n), api.OK)
	}
}

// TestCheckOfTheLiving: the checkpoint's own LSN is 0, so that a Last may be the greatest that there is.
func TestCheckOfTheLiving(t *testing.T) {
	wantCheck(t, point(9, open(1, 1<<31-1), committed(5, 1), undoing(8, 1)), api.OK)
	wantCheck(t, point(1<<31, open(1<<31-1, 1)), api.OK)
	for _, tx := range []int{math.MinInt, -1, 0, 9, 10, math.MaxInt} {
		wantCheck(t, point(9, open(tx, 1)), api.ErrField)
		wantCheck(t, point(9, open(1, 1), open(tx, 2)), api.ErrField)
	}
	for _, last := range wrongRecords {
		wantCheck(t, point(9, open(1, last)), api.ErrField)
		wantCheck(t, point(9, open(1, 1), undoing(8, last)), api.ErrField)
	}
	wantCheck(t, point(9, api.Live{Tx: 4, Last: 2, Committed: true, Undoing: true}), api.ErrField)
	wantCheck(t, point(9, open(2, 1), open(1, 2)), api.ErrField)
	wantCheck(t, point(9, open(3, 1), open(3, 2)), api.ErrField)
}

func TestCheckOfTheDirtyPages(t *testing.T) {
	wantCheck(t, ofDirty(0, 1<<31-1, 62, 1, 63, 5), api.OK)
	for _, n := range wrongPages {
		wantCheck(t, ofDirty(n, 1), api.ErrField)
		wantCheck(t, ofDirty(5, 1, n, 1), api.ErrField)
	}
	for _, since := range wrongRecords {
		wantCheck(t, ofDirty(5, since), api.ErrField)
		wantCheck(t, ofDirty(5, 1, 6, since), api.ErrField)
	}
	wantCheck(t, ofDirty(3, 9, 1, 4), api.ErrField)
	wantCheck(t, ofDirty(3, 9, 3, 9), api.ErrField)
}

func TestCheckOfAsManyAsMayBe(t *testing.T) {
	p := api.Points{Next: 100}
	for k := range 32 {
		p.Live = append(p.Live, open(k+1, 1))
	}
	for k := range 16 {
		p.Dirty = append(p.Dirty, api.Dirty{Page: k, Since: 1})
	}
	wantCheck(t, p, api.OK)
	more := p
	more.Live = append(slices.Clone(p.Live), open(33, 1))
	wantCheck(t, more, api.ErrField)
	more = p
	more.Dirty = append(slices.Clone(p.Dirty), api.Dirty{Page: 16, Since: 1})
	wantCheck(t, more, api.ErrField)
}

// TestEmptyListsAreNone: nil or not.
func TestEmptyListsAreNone(t *testing.T) {
	p := api.Points{Live: []api.Live{}, Dirty: []api.Dirty{}, Next: 1}
	wantCheck(t, p, api.OK)
	wantFrom(t, p, 0)
	wantMerge(t, []api.Dirty{}, nil, nil)
	wantMerge(t, nil, make([]api.Dirty, 0, 5), nil)
	wantMerge(t, []api.Dirty{}, dirty(3, 9), dirty(3, 9))
}

// TestFromLooksAtEverySince: the least is first, last or between; right or not; the page is nothing to it.
func TestFromLooksAtEverySince(t *testing.T) {
	wantFrom(t, ofDirty(5, 1<<31-1), 1<<31-1)
	wantFrom(t, ofDirty(0, 4, 1, 5, 2, 6), 4)
	wantFrom(t, ofDirty(0, 5, 1, 4, 2, 6), 4)
	wantFrom(t, ofDirty(0, 6, 1, 5, 2, 4), 4)
	wantFrom(t, ofDirty(0, 4, 1, 4), 4)
	wantFrom(t, ofDirty(3, 9, 3, 4, 3, 7), 4)
	wantFrom(t, ofDirty(1, 7, 2, 0, 3, 9), 0)
	for _, n := range wrongRecords {
		wantFrom(t, ofDirty(5, n), n)
		wantFrom(t, ofDirty(5, math.MaxInt, -5, n, 99, math.MaxInt), n)
		wantFrom(t, ofDirty(5, n, 6, math.MinInt), math.MinInt)
	}
	for _, n := range wrongPages {
		wantFrom(t, ofDirty(n, 8, 3, 9), 8)
	}
}

func TestFromLooksAtNothingElse(t *testing.T) {
	for _, next := range []int{math.MinInt, -1, 0, 1, 3, math.MaxInt} {
		wantFrom(t, point(next), 0)
		wantFrom(t, point(next, open(1, 2), open(-1, -2)), 0)
		p := point(next, open(1, 2))
		p.Dirty = dirty(7, 5)
		wantFrom(t, p, 5)
	}
}

func TestFromOfMoreThanMayBeDirty(t *testing.T) {
	p := api.Points{Next: 1}
	for k := range 5000 {
		p.Dirty = append(p.Dirty, api.Dirty{Page: k, Since: 9000 - k})
	}
	wantFrom(t, p, 4001)
}
