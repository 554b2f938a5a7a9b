package apply_test

import (
	"math"
	"slices"
	"testing"

	"quota/api"
	"quota/apply"
	"quota/page"
)

func slot(number, index int) api.Slot { return api.Slot{Page: number, Index: index} }

// counter: number 7 of the worked examples, with that value.
func counter(v int64) api.Counter {
	return api.Counter{ID: 7, Group: 2, Bounds: api.Range{Lo: 0, Hi: 10}, Value: v}
}

// create, add, undo: the worked examples' C, A and U.
func create() api.Record {
	return api.Record{Kind: api.Create, LSN: 4, Where: slot(0, 0), Sums: slot(3, 0), Counter: counter(5)}
}

func add() api.Record {
	return api.Record{Kind: api.Add, LSN: 6, Tx: 1, Prev: 5, Where: slot(0, 0), Sums: slot(3, 0), Counter: api.Counter{ID: 7}, Delta: 3}
}

func undo() api.Record {
	r := add()
	r.Kind, r.LSN, r.Prev = api.Undo, 9, 8
	return r
}

// turned: the record with something of it made another.
func turned(r api.Record, f func(r *api.Record)) api.Record {
	f(&r)
	return r
}

func ofCounters(number, lsn int, list ...api.Counter) page.Page {
	return page.Page{Number: number, LSN: lsn, Counters: list}
}

func ofGroups(number, lsn int, list ...api.Group) page.Page {
	return page.Page{Number: number, LSN: lsn, Groups: list}
}

// counters: so many, all number 7; the value tells which one it is.
func counters(n int) []api.Counter {
	var out []api.Counter
	for k := range n {
		out = append(out, counter(int64(k)))
	}
	return out
}

// groups: so many, all group 2; the sum tells which one it is.
func groups(n int) []api.Group {
	var out []api.Group
	for k := range n {
		out = append(out, api.Group{ID: 2, Sum: int64(k)})
	}
	return out
}

func same(p, q page.Page) bool {
	return p.Number == q.Number && p.LSN == q.LSN && slices.Equal(p.Counters, q.Counters) && slices.Equal(p.Groups, q.Groups)
}

func wantDo(t *testing.T, p page.Page, r api.Record, want page.Page) {
	t.Helper()
	if q, did, e := apply.Do(p, r); !same(q, want) || !did || e != api.OK {
		t.Errorf("P14.3: Do(%v, %v) = %v, %v, %d, want %v", p, r, q, did, e, want)
	}
}

// wantStays: the page is the record's age, or younger.
func wantStays(t *testing.T, p page.Page, r api.Record) {
	t.Helper()
	if q, did, e := apply.Do(p, r); !same(q, p) || did || e != api.OK {
		t.Errorf("P14.3: Do(%v, %v) = %v, %v, %d, want the page itself, false", p, r, q, did, e)
	}
}

func wantRefused(t *testing.T, p page.Page, r api.Record, want api.Errno) {
	t.Helper()
	q, did, e := apply.Do(p, r)
	if e != want {
		t.Errorf("P14.3: Do(%v, %v) = %d, want %d", p, r, e, want)
	}
	if !same(q, page.Page{}) || did {
		t.Errorf("P14.1: Do(%v, %v) = %v, %v beside %d", p, r, q, did, e)
	}
}

func wantPages(t *testing.T, r api.Record, want ...int) {
	t.Helper()
	if got := apply.Pages(r); !slices.Equal(got, want) {
		t.Errorf("P14.2: Pages(%v) = %v, want %v", r, got, want)
	}
}

func TestWorkedExamples(t *testing.T) {
	onOnePage := turned(add(), func(r *api.Record) { r.Sums = slot(0, 1) })
	wantPages(t, create(), 0, 3)
	wantPages(t, api.Record{Kind: api.Begin, Tx: 1})
	wantPages(t, onOnePage, 0)
	first := ofCounters(0, 4, counter(5))
	wantDo(t, page.Page{Number: 0}, create(), first)
	wantDo(t, page.Page{Number: 3}, create(), ofGroups(3, 4, api.Group{ID: 2, Sum: 5}))
	wantStays(t, first, create())
	wantDo(t, first, add(), ofCounters(0, 6, counter(8)))
	wantDo(t, ofCounters(0, 6, counter(8)), undo(), ofCounters(0, 9, counter(5)))
	wantDo(t, ofGroups(3, 4, api.Group{ID: 2, Sum: 5}), add(), ofGroups(3, 6, api.Group{ID: 2, Sum: 8}))
	wantRefused(t, page.Page{Number: 1}, create(), api.ErrPage)
	wantRefused(t, page.Page{Number: 0}, api.Record{Kind: api.Commit, LSN: 4, Tx: 1, Prev: 3}, api.ErrKind)
	wantRefused(t, page.Page{Number: 0}, onOnePage, api.ErrField)
	wantRefused(t, page.Page{Number: 0}, add(), api.ErrSlot)
	other := ofCounters(0, 2, api.Counter{ID: 8, Group: 2})
	wantRefused(t, other, create(), api.ErrSlot)
	wantRefused(t, other, add(), api.ErrSlot)
	wantRefused(t, ofGroups(3, 2, api.Group{ID: 9, Sum: 1}), create(), api.ErrSlot)
	wantRefused(t, ofCounters(0, 4, counter(math.MaxInt64-2)), add(), api.ErrOverflow)
	least := turned(undo(), func(r *api.Record) { r.Delta = math.MinInt64 })
	wantDo(t, ofCounters(0, 4, counter(-1)), least, ofCounters(0, 9, counter(math.MaxInt64)))
	wantRefused(t, ofCounters(0, 4, counter(0)), least, api.ErrOverflow)
}

func TestPagesRise(t *testing.T) {
	numbers := []int{math.MinInt, -1, 0, 1, 2, 63, 64, math.MaxInt}
	for kind := api.Kind(-1); kind < 12; kind++ {
		for _, a := range numbers {
			for _, b := range numbers {
				r := api.Record{Kind: kind, LSN: a, Where: slot(a, 5), Sums: slot(b, 4)}
				switch {
				case kind != api.Create && kind != api.Add && kind != api.Undo:
					wantPages(t, r)
				case a == b:
					wantPages(t, r, a)
				default:
					wantPages(t, r, min(a, b), max(a, b))
				}
			}
		}
	}
	for _, kind := range []api.Kind{math.MinInt, 257, 1 << 32, 1<<32 + 2, math.MaxInt} {
		wantPages(t, api.Record{Kind: kind, Sums: slot(1, 0)})
	}
}

func TestKindsThatChangeNoPage(t *testing.T) {
	for _, kind := range []api.Kind{math.MinInt, -2, 0, api.Begin, api.Commit, api.Abort, api.End, api.Checkpoint, 9, 258, 1<<32 + 3, math.MaxInt} {
		for _, p := range []page.Page{{Number: 0}, {Number: 3}, {Number: 7}, ofCounters(0, 4, counter(1)), ofCounters(0, 99, counter(1))} {
			wantRefused(t, p, turned(add(), func(r *api.Record) { r.Kind = kind }), api.ErrKind)
			wantRefused(t, p, turned(create(), func(r *api.Record) { r.Kind, r.LSN, r.Sums.Page = kind, 0, 0 }), api.ErrKind)
		}
	}
}

func TestEdgesOfTheLSN(t *testing.T) {
	empty, old := page.Page{Number: 0}, ofCounters(0, 0, counter(1))
	for _, lsn := range []int{math.MinInt, -1, 0, 1 << 31, 1<<32 + 1, math.MaxInt} {
		for _, r := range []api.Record{create(), add(), undo()} {
			r.LSN = lsn
			wantRefused(t, empty, r, api.ErrField)
			wantRefused(t, old, r, api.ErrField)
			wantRefused(t, ofCounters(0, math.MaxInt, counter(1)), r, api.ErrField)
			wantRefused(t, page.Page{Number: 9}, r, api.ErrField)
		}
	}
	for _, lsn := range []int{1, 2, 1<<31 - 1} {
		at := func(r *api.Record) { r.LSN = lsn }
		wantDo(t, empty, turned(create(), at), ofCounters(0, lsn, counter(5)))
		wantDo(t, old, turned(add(), at), ofCounters(0, lsn, counter(4)))
		wantDo(t, old, turned(undo(), at), ofCounters(0, lsn, counter(-2)))
	}
}

func TestPagesMustBeTwo(t *testing.T) {
	for _, r := range []api.Record{create(), add(), undo()} {
		for _, number := range []int{-1, 0, 3, 64} {
			r.Where, r.Sums = slot(number, 0), slot(number, 1)
			wantRefused(t, ofCounters(number, 1, counter(1)), r, api.ErrField)
			wantRefused(t, ofCounters(number, 99, counter(1)), r, api.ErrField)
			wantRefused(t, page.Page{Number: number + 1}, r, api.ErrField)
		}
	}
}

func TestOtherPages(t *testing.T) {
	for _, r := range []api.Record{create(), add(), undo()} {
		for _, number := range []int{math.MinInt, -1, 1, 2, 4, 63, 64, 1 << 32, math.MaxInt} {
			wantRefused(t, page.Page{Number: number}, r, api.ErrPage)
			wantRefused(t, ofCounters(number, 99, counter(1)), r, api.ErrPage)
			wantRefused(t, ofGroups(number, 4, groups(1)...), r, api.ErrPage)
		}
	}
}

// TestAgeOfThePage: a page that is as young as the record stays, whatever is wrong with what the record would do; one that is older by 1 does not.
func TestAgeOfThePage(t *testing.T) {
	for _, r := range []api.Record{create(), add(), undo()} {
		r.Where.Index, r.Sums.Index, r.Delta = -5, 99, math.MinInt64
		for _, lsn := range []int{r.LSN, r.LSN + 1, 1<<31 - 1, 1 << 31, math.MaxInt} {
			for _, number := range []int{0, 3} {
				wantStays(t, page.Page{Number: number, LSN: lsn}, r)
				wantStays(t, ofCounters(number, lsn, counters(2)...), r)
				wantStays(t, ofGroups(number, lsn, groups(3)...), r)
				wantStays(t, page.Page{Number: number, LSN: lsn, Counters: counters(40), Groups: groups(99)}, r)
			}
		}
		for _, lsn := range []int{r.LSN - 1, 0, -1, math.MinInt} {
			wantRefused(t, ofCounters(0, lsn, counter(1)), r, api.ErrSlot)
			wantRefused(t, ofGroups(3, lsn, groups(1)...), r, api.ErrSlot)
		}
	}
	for _, lsn := range []int{5, 0, -1, math.MinInt} {
		wantDo(t, ofCounters(0, lsn, counter(1)), add(), ofCounters(0, 6, counter(4)))
		wantDo(t, ofGroups(3, lsn, groups(1)...), add(), ofGroups(3, 6, api.Group{ID: 2, Sum: 3}))
	}
}

// TestPagesOfTheOtherKind: a page with both is neither's.
func TestPagesOfTheOtherKind(t *testing.T) {
	for _, r := range []api.Record{create(), add(), undo()} {
		wantRefused(t, ofGroups(0, 1, groups(1)...), r, api.ErrSlot)
		wantRefused(t, ofCounters(3, 1, counters(1)...), r, api.ErrSlot)
		for _, number := range []int{0, 3} {
			r.Where.Index, r.Sums.Index = 0, 0
			wantRefused(t, page.Page{Number: number, LSN: 1, Counters: counters(1), Groups: groups(1)}, r, api.ErrSlot)
			r.Where.Index, r.Sums.Index = 1, 1
			wantRefused(t, page.Page{Number: number, LSN: 1, Counters: counters(1), Groups: groups(1)}, r, api.ErrSlot)
		}
	}
}
