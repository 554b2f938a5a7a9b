package apply_test

import (
	"math"
	"slices"
	"testing"

	"quota/api"
	"quota/page"
)

// indexes: of a list of that length, those around its ends, and some far away.
func indexes(n int) []int {
	out := []int{math.MinInt, -n - 1, -n, -1, 0, 1, n / 2, n - 2, n - 1, n, n + 1, 30, 31, 32, 83, 84, 85, 1 << 32, 1<<32 + n, math.MaxInt}
	slices.Sort(out)
	return slices.Compact(out)
}

func TestWhereOfACreate(t *testing.T) {
	for _, n := range []int{0, 1, 2, 29, 30, 31, 32, 84} {
		p := ofCounters(0, 1, counters(n)...)
		for _, at := range indexes(n) {
			r := turned(create(), func(r *api.Record) { r.Where.Index = at })
			if at == n && n < 31 {
				wantDo(t, p, r, ofCounters(0, 4, append(counters(n), counter(5))...))
			} else {
				wantRefused(t, p, r, api.ErrSlot)
			}
		}
	}
}

// TestCreateAsksNoMore: what stands in the record is put into the page, be it right or not, and a number that stands there already too.
func TestCreateAsksNoMore(t *testing.T) {
	for _, c := range []api.Counter{
		{},
		{ID: -1, Group: 1 << 40, Bounds: api.Range{Lo: 2, Hi: 1}, Value: 9},
		{ID: 7, Group: 2, Bounds: api.Range{Lo: math.MinInt64, Hi: math.MaxInt64}, Value: math.MinInt64},
		{ID: math.MaxInt, Group: math.MinInt, Value: math.MaxInt64},
	} {
		r := turned(create(), func(r *api.Record) {
			r.Counter, r.Where.Index, r.Sums.Index, r.Delta, r.Tx = c, 1, 1, math.MaxInt64, -3
		})
		wantDo(t, ofCounters(0, 2, counter(1)), r, ofCounters(0, 4, counter(1), c))
		wantDo(t, ofGroups(3, 2, groups(1)...), r, ofGroups(3, 4, api.Group{ID: 2}, api.Group{ID: c.Group, Sum: c.Value}))
	}
}

func TestWhereOfAnAdd(t *testing.T) {
	for _, n := range []int{0, 1, 2, 30, 31, 32, 40} {
		p := ofCounters(0, 1, counters(n)...)
		for _, at := range indexes(n) {
			a := turned(add(), func(r *api.Record) { r.Where.Index = at })
			u := turned(undo(), func(r *api.Record) { r.Where.Index = at })
			if at < 0 || at >= n {
				wantRefused(t, p, a, api.ErrSlot)
				wantRefused(t, p, u, api.ErrSlot)
				continue
			}
			more, less := counters(n), counters(n)
			more[at].Value, less[at].Value = int64(at)+3, int64(at)-3
			wantDo(t, p, a, ofCounters(0, 6, more...))
			wantDo(t, p, u, ofCounters(0, 9, less...))
		}
	}
}

// TestCounterOfAnAdd: the number in the slot is asked, and no other field of the counter.
func TestCounterOfAnAdd(t *testing.T) {
	row := []api.Counter{{ID: 7}, {ID: 8, Group: -1, Bounds: api.Range{Lo: 1}, Value: 2}, {ID: 0}, {ID: -9}}
	p := ofCounters(0, 1, row...)
	for at, c := range row {
		for _, id := range []int{math.MinInt, -9, -1, 0, 6, 7, 8, 9, 1<<32 + 7, math.MaxInt} {
			r := turned(add(), func(r *api.Record) {
				r.Where.Index, r.Counter = at, api.Counter{ID: id, Group: 5, Value: 100, Bounds: api.Range{Lo: 5, Hi: 4}}
			})
			if id != c.ID {
				wantRefused(t, p, r, api.ErrSlot)
				wantRefused(t, p, turned(r, func(r *api.Record) { r.Kind = api.Undo }), api.ErrSlot)
				continue
			}
			want := slices.Clone(row)
			want[at].Value += 3
			wantDo(t, p, r, ofCounters(0, 6, want...))
		}
	}
}

func TestSumsOfACreate(t *testing.T) {
	for _, n := range []int{0, 1, 2, 31, 32, 82, 83, 84, 85, 120} {
		p := ofGroups(3, 1, groups(n)...)
		for _, at := range indexes(n) {
			r := turned(create(), func(r *api.Record) { r.Sums.Index = at })
			switch {
			case at == n && n < 84:
				wantDo(t, p, r, ofGroups(3, 4, append(groups(n), api.Group{ID: 2, Sum: 5})...))
			case at < 0 || at >= n:
				wantRefused(t, p, r, api.ErrSlot)
			default:
				want := groups(n)
				want[at].Sum += 5
				wantDo(t, p, r, ofGroups(3, 4, want...))
			}
		}
	}
}

func TestGroupOfACreate(t *testing.T) {
	row := []api.Group{{ID: 2, Sum: 1}, {ID: 3, Sum: 1}, {ID: 0, Sum: 1}, {ID: -9, Sum: 1}}
	p := ofGroups(3, 1, row...)
	for at := range len(row) + 1 {
		for _, id := range []int{math.MinInt, -9, -1, 0, 1, 2, 3, 4, 7, 1<<32 + 2, math.MaxInt} {
			r := turned(create(), func(r *api.Record) { r.Sums.Index, r.Counter.Group = at, id })
			want := slices.Clone(row)
			switch {
			case at == len(row):
				// A group that stands elsewhere already is not looked for.
				wantDo(t, p, r, ofGroups(3, 4, append(want, api.Group{ID: id, Sum: 5})...))
			case row[at].ID != id:
				wantRefused(t, p, r, api.ErrSlot)
			default:
				want[at].Sum += 5
				wantDo(t, p, r, ofGroups(3, 4, want...))
			}
		}
	}
}

// TestSumsOfAnAdd: any group may stand there, since the record doesn't tell the counter's.
func TestSumsOfAnAdd(t *testing.T) {
	for _, n := range []int{0, 1, 2, 31, 83, 84, 85, 120} {
		row := groups(n)
		for k := range row {
			row[k].ID = k - 3
		}
		p := ofGroups(3, 1, row...)
		for _, at := range indexes(n) {
			a := turned(add(), func(r *api.Record) { r.Sums.Index = at })
			u := turned(undo(), func(r *api.Record) { r.Sums.Index = at })
			if at < 0 || at >= n {
				wantRefused(t, p, a, api.ErrSlot)
				wantRefused(t, p, u, api.ErrSlot)
				continue
			}
			more, less := slices.Clone(row), slices.Clone(row)
			more[at].Sum, less[at].Sum = int64(at)+3, int64(at)-3
			wantDo(t, p, a, ofGroups(3, 6, more...))
			wantDo(t, p, u, ofGroups(3, 9, less...))
		}
	}
}

// TestTheOtherSlotIsNotAsked: what the record says of its other page is nothing to this one.
func TestTheOtherSlotIsNotAsked(t *testing.T) {
	for _, at := range indexes(1) {
		sums := func(r *api.Record) { r.Sums.Index = at }
		where := func(r *api.Record) { r.Where.Index = at }
		wantDo(t, page.Page{Number: 0}, turned(create(), sums), ofCounters(0, 4, counter(5)))
		wantDo(t, ofCounters(0, 1, counter(1)), turned(add(), sums), ofCounters(0, 6, counter(4)))
		wantDo(t, page.Page{Number: 3}, turned(create(), where), ofGroups(3, 4, api.Group{ID: 2, Sum: 5}))
		wantDo(t, ofGroups(3, 1, groups(1)...), turned(undo(), where), ofGroups(3, 9, api.Group{ID: 2, Sum: -3}))
	}
}

// TestTheSmallerNumberMayBeTheSums: which of the two pages is the counter's, its slot tells, not the order of the numbers.
func TestTheSmallerNumberMayBeTheSums(t *testing.T) {
	swap := func(r *api.Record) { r.Where, r.Sums = slot(3, 1), slot(0, 0) }
	wantPages(t, turned(create(), swap), 0, 3)
	wantDo(t, ofCounters(3, 1, counter(1)), turned(create(), swap), ofCounters(3, 4, counter(1), counter(5)))
	wantDo(t, page.Page{Number: 0}, turned(create(), swap), ofGroups(0, 4, api.Group{ID: 2, Sum: 5}))
	wantDo(t, ofCounters(3, 1, counters(2)...), turned(undo(), swap), ofCounters(3, 9, counter(0), counter(-2)))
	wantDo(t, ofGroups(0, 1, groups(1)...), turned(add(), swap), ofGroups(0, 6, api.Group{ID: 2, Sum: 3}))
}

func TestOverflow(t *testing.T) {
	const most, least = math.MaxInt64, math.MinInt64
	for _, c := range []struct {
		n, delta int64
		more     bool // whether n + delta fits
		less     bool // whether n - delta does
	}{
		{most, 0, true, true}, {least, 0, true, true},
		{most, 1, false, true}, {most, -1, true, false},
		{least, 1, true, false}, {least, -1, false, true},
		{most, most, false, true}, {least, least, false, true},
		{0, most, true, true}, {0, least, true, false},
		{-1, least, false, true}, {-1, most, true, true}, {-2, most, true, false},
		{most, least, true, false}, {least, most, true, false},
		{1, most, false, true}, {1, least, true, false},
		{most - 2, 3, false, true}, {most - 3, 3, true, true}, {least + 2, 3, true, false}, {least + 3, 3, true, true},
	} {
		wantOverflow(t, turned(add(), func(r *api.Record) { r.Delta = c.delta }), c.n, c.n+c.delta, c.more)
		wantOverflow(t, turned(undo(), func(r *api.Record) { r.Delta = c.delta }), c.n, c.n-c.delta, c.less)
		r := turned(create(), func(r *api.Record) { r.Counter.Value = c.delta })
		wantSum(t, r, c.n, c.n+c.delta, c.more)
	}
}

// wantOverflow: of a counter's value and of a group's sum alike.
func wantOverflow(t *testing.T, r api.Record, before, behind int64, fits bool) {
	t.Helper()
	p := ofCounters(0, 1, counter(before))
	if fits {
		wantDo(t, p, r, ofCounters(0, r.LSN, counter(behind)))
	} else {
		wantRefused(t, p, r, api.ErrOverflow)
	}
	wantSum(t, r, before, behind, fits)
}

func wantSum(t *testing.T, r api.Record, before, behind int64, fits bool) {
	t.Helper()
	p := ofGroups(3, 1, api.Group{ID: 2, Sum: before})
	if fits {
		wantDo(t, p, r, ofGroups(3, r.LSN, api.Group{ID: 2, Sum: behind}))
	} else {
		wantRefused(t, p, r, api.ErrOverflow)
	}
}

// TestSlotsAheadOfOverflow: of a number that would overflow in a slot that is not the record's, the slot is told.
func TestSlotsAheadOfOverflow(t *testing.T) {
	full := api.Counter{ID: 8, Value: math.MaxInt64}
	wantRefused(t, ofCounters(0, 1, full), add(), api.ErrSlot)
	wantRefused(t, ofGroups(3, 1, api.Group{ID: 9, Sum: math.MaxInt64}), create(), api.ErrSlot)
	wantRefused(t, page.Page{Number: 3, LSN: 1, Counters: counters(1), Groups: []api.Group{{ID: 2, Sum: math.MaxInt64}}}, add(), api.ErrSlot)
}
