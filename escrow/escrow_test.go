package escrow_test

import (
	"math"
	"math/rand/v2"
	"slices"
	"testing"

	"quota/api"
	"quota/escrow"
)

const (
	most  = math.MaxInt64
	least = math.MinInt64
)

func drawn() *rand.Rand { return rand.New(rand.NewPCG(10, 0)) }

func between(lo, hi int64) api.Range { return api.Range{Lo: lo, Hi: hi} }

// made: a counter that must be one.
func made(t *testing.T, bounds api.Range, value int64) *escrow.Escrow {
	t.Helper()
	e, fault := escrow.New(bounds, value)
	if fault != api.OK || e == nil {
		t.Fatalf("P10.2: New(%v, %d) = %v, %d", bounds, value, e, fault)
	}
	return e
}

// told: all that a counter says of itself.
type told struct {
	interval, bounds api.Range
	settled, value   int64
	holders          []int
	nets             []int64
}

func tell(e *escrow.Escrow) told {
	out := told{interval: e.Interval(), bounds: e.Bounds(), settled: e.Settled(), value: e.Value(), holders: e.Holders()}
	for _, tx := range out.holders {
		net, _ := e.Net(tx)
		out.nets = append(out.nets, net)
	}
	return out
}

func (a told) same(b told) bool {
	return a.interval == b.interval && a.bounds == b.bounds && a.settled == b.settled && a.value == b.value &&
		slices.Equal(a.holders, b.holders) && slices.Equal(a.nets, b.nets)
}

func wantAdd(t *testing.T, e *escrow.Escrow, tx int, delta int64, want api.Errno) {
	t.Helper()
	before := tell(e)
	if got := e.May(tx, delta); got != want {
		t.Errorf("P10.3: May(%d, %d) = %d, want %d", tx, delta, got, want)
	}
	if !tell(e).same(before) {
		t.Errorf("P10.3: May(%d, %d) has made %+v of %+v", tx, delta, tell(e), before)
	}
	if got := e.Add(tx, delta); got != want {
		t.Errorf("P10.4: Add(%d, %d) = %d, want %d", tx, delta, got, want)
	}
	if want != api.OK && !tell(e).same(before) {
		t.Errorf("P10.1: Add(%d, %d), refused, has made %+v of %+v", tx, delta, tell(e), before)
	}
}

func wantNet(t *testing.T, e *escrow.Escrow, tx int, net int64, held bool) {
	t.Helper()
	if got, ok := e.Net(tx); got != net || ok != held {
		t.Errorf("P10.5: Net(%d) = %d, %v, want %d, %v", tx, got, ok, net, held)
	}
}

func wantSettle(t *testing.T, e *escrow.Escrow, tx int, want bool) {
	t.Helper()
	if got := e.Settle(tx); got != want {
		t.Errorf("P10.6: Settle(%d) = %v, want %v", tx, got, want)
	}
}

func wantRelease(t *testing.T, e *escrow.Escrow, tx int, want bool) {
	t.Helper()
	if got := e.Release(tx); got != want {
		t.Errorf("P10.6: Release(%d) = %v, want %v", tx, got, want)
	}
}

func wantState(t *testing.T, e *escrow.Escrow, worst api.Range, settled, value int64, holders ...int) {
	t.Helper()
	if e.Interval() != worst || e.Settled() != settled || e.Value() != value || !slices.Equal(e.Holders(), holders) {
		t.Errorf("P10.7: Interval %v, Settled %d, Value %d, Holders %v, want %v, %d, %d, %v",
			e.Interval(), e.Settled(), e.Value(), e.Holders(), worst, settled, value, holders)
	}
}

func TestExampleOfOneCounter(t *testing.T) {
	e := made(t, between(0, 10), 5)
	wantAdd(t, e, 1, 4, api.OK)
	wantAdd(t, e, 2, -5, api.OK)
	wantState(t, e, between(0, 9), 5, 4, 1, 2)
	wantAdd(t, e, 3, 2, api.ErrBounds)
	wantAdd(t, e, 3, -1, api.ErrBounds)
	wantAdd(t, e, 1, 2, api.ErrBounds)
	wantAdd(t, e, 2, 6, api.OK)
	wantNet(t, e, 2, 1, true)
	wantState(t, e, between(5, 10), 5, 10, 1, 2)
	wantAdd(t, e, 3, 0, api.OK)
	wantState(t, e, between(5, 10), 5, 10, 1, 2, 3)
	wantNet(t, e, 3, 0, true)
	wantNet(t, e, 4, 0, false)
	wantSettle(t, e, 1, true)
	wantSettle(t, e, 1, false)
	wantState(t, e, between(9, 10), 9, 10, 2, 3)
	wantRelease(t, e, 2, true)
	wantState(t, e, between(9, 9), 9, 9, 3)
	wantAdd(t, e, 0, 1, api.ErrTx)
	wantAdd(t, e, -1, 0, api.ErrTx)
	wantAdd(t, e, 1<<31, 0, api.ErrTx)
}

func TestExampleOfFarNets(t *testing.T) {
	f := made(t, between(least, most), least)
	wantAdd(t, f, 1, most, api.OK)
	wantState(t, f, between(least, -1), least, -1, 1)
	wantAdd(t, f, 1, 1, api.ErrOverflow)
	wantAdd(t, f, 2, 1, api.OK)
	wantAdd(t, f, 2, -1, api.OK)
	wantAdd(t, f, 2, -1, api.ErrBounds)
	wantState(t, f, between(least, -1), least, -1, 1, 2)
}

func TestNew(t *testing.T) {
	for _, c := range []struct {
		bounds api.Range
		value  int64
		want   api.Errno
	}{
		{between(3, 2), 0, api.ErrRange},
		{between(3, 2), 3, api.ErrRange},
		{between(most, least), 0, api.ErrRange},
		{between(0, 10), 11, api.ErrBounds},
		{between(0, 10), -1, api.ErrBounds},
		{between(0, 0), least, api.ErrBounds},
		{between(0, 0), most, api.ErrBounds},
		{between(0, 10), 0, api.OK},
		{between(0, 10), 10, api.OK},
		{between(7, 7), 7, api.OK},
		{between(least, most), least, api.OK},
		{between(least, most), most, api.OK},
		{between(least, least), least, api.OK},
		{between(most, most), most, api.OK},
	} {
		e, fault := escrow.New(c.bounds, c.value)
		if fault != c.want || (e == nil) != (c.want != api.OK) {
			t.Errorf("P10.2: New(%v, %d) = %v, %d, want %d", c.bounds, c.value, e, fault, c.want)
		}
		if e == nil {
			continue
		}
		wantState(t, e, between(c.value, c.value), c.value, c.value)
		if e.Bounds() != c.bounds {
			t.Errorf("P10.7: Bounds = %v, want %v", e.Bounds(), c.bounds)
		}
	}
}

func TestWhichNumbersAreTransactions(t *testing.T) {
	e := made(t, between(-1, 1), 0)
	for _, tx := range []int{0, -1, math.MinInt, api.MaxTx + 1, math.MaxInt} {
		for _, delta := range []int64{0, 1, 2, -2, most, least} {
			wantAdd(t, e, tx, delta, api.ErrTx)
		}
		wantNet(t, e, tx, 0, false)
		wantSettle(t, e, tx, false)
		wantRelease(t, e, tx, false)
	}
	wantState(t, e, between(0, 0), 0, 0)
	wantAdd(t, e, 1, 1, api.OK)
	wantAdd(t, e, api.MaxTx, -1, api.OK)
	wantState(t, e, between(-1, 1), 0, 0, 1, api.MaxTx)
}

// TestBoundsAreAskedAheadOfTheNet: a net beyond 64 bits is told only if the bounds would hold, in both directions.
func TestBoundsAreAskedAheadOfTheNet(t *testing.T) {
	up := made(t, between(least, most), least)
	wantAdd(t, up, 1, most, api.OK)
	wantAdd(t, up, 1, 1, api.ErrOverflow)
	wantAdd(t, up, 1, most, api.ErrOverflow)
	wantAdd(t, up, 2, 2, api.OK)
	wantAdd(t, up, 1, most-2, api.ErrOverflow)
	wantAdd(t, up, 1, most-1, api.ErrOverflow)
	wantAdd(t, up, 1, most, api.ErrBounds)

	down := made(t, between(least, most), most)
	wantAdd(t, down, 1, least, api.OK)
	wantAdd(t, down, 1, -1, api.ErrOverflow)
	wantAdd(t, down, 1, least+1, api.ErrOverflow)
	wantAdd(t, down, 1, least, api.ErrBounds)
	wantAdd(t, down, 2, least+2, api.OK)
	wantAdd(t, down, 1, -1, api.ErrOverflow)
	wantAdd(t, down, 1, -2, api.ErrBounds)
	wantState(t, down, between(least+1, most), most, least+1, 1, 2)

	tight := made(t, between(least, -2), least)
	wantAdd(t, tight, 1, most-1, api.OK)
	wantAdd(t, tight, 1, 1, api.ErrBounds)
	wantAdd(t, tight, 1, 2, api.ErrBounds)
}

// TestNetsOnBothSides: low and high are farther apart than 64 bits can tell; each lies within them.
func TestNetsOnBothSides(t *testing.T) {
	e := made(t, between(least, most), 0)
	wantAdd(t, e, 1, most, api.OK)
	wantAdd(t, e, 2, least, api.OK)
	wantState(t, e, between(least, most), 0, -1, 1, 2)
	wantAdd(t, e, 3, 1, api.ErrBounds)
	wantAdd(t, e, 3, -1, api.ErrBounds)
	wantAdd(t, e, 1, least, api.ErrBounds)
	wantAdd(t, e, 2, most, api.OK)
	wantState(t, e, between(-1, most), 0, most-1, 1, 2)
	wantAdd(t, e, 2, least+1, api.OK)
	wantSettle(t, e, 1, true)
	wantState(t, e, between(-1, most), most, -1, 2)
	wantRelease(t, e, 2, true)
	wantState(t, e, between(most, most), most, most)
}

func TestOneDeltaTurnsANet(t *testing.T) {
	e := made(t, between(least, most), 0)
	wantAdd(t, e, 1, -5, api.OK)
	wantAdd(t, e, 1, 12, api.OK)
	wantState(t, e, between(0, 7), 0, 7, 1)
	wantAdd(t, e, 1, -7, api.OK)
	wantNet(t, e, 1, 0, true)
	wantState(t, e, between(0, 0), 0, 0, 1)
	wantAdd(t, e, 1, least, api.OK)
	wantState(t, e, between(least, 0), 0, least, 1)
	wantAdd(t, e, 1, most, api.OK)
	wantNet(t, e, 1, -1, true)
}

// TestARefusedFirstDeltaHoldsNothing: one becomes a holder by a delta that was taken alone.
func TestARefusedFirstDeltaHoldsNothing(t *testing.T) {
	e := made(t, between(0, 1), 0)
	wantAdd(t, e, 1, 2, api.ErrBounds)
	wantNet(t, e, 1, 0, false)
	wantSettle(t, e, 1, false)
	wantRelease(t, e, 1, false)
	wantAdd(t, e, 1, 0, api.OK)
	wantRelease(t, e, 1, true)
	wantNet(t, e, 1, 0, false)
	wantRelease(t, e, 1, false)
	wantAdd(t, e, 1, 1, api.OK)
	wantSettle(t, e, 1, true)
	wantSettle(t, e, 1, false)
	wantRelease(t, e, 1, false)
	wantState(t, e, between(1, 1), 1, 1)
	wantAdd(t, e, 1, -1, api.OK)
	wantNet(t, e, 1, -1, true)
}

// permuted calls with every order of the numbers from 0 to n - 1.
func permuted(n int, call func(order []int)) {
	var grow func(order []int)
	grow = func(order []int) {
		if len(order) == n {
			call(order)
			return
		}
		for k := range n {
			if !slices.Contains(order, k) {
				grow(append(slices.Clone(order), k))
			}
		}
	}
	grow(nil)
}

// end goes on in a copy: all holders are settled (a 1 in set) or released, in this order.
func end(t *testing.T, e *escrow.Escrow, holders, order []int, set int) *escrow.Escrow {
	t.Helper()
	c := e.Copy()
	for _, k := range order {
		if set>>k&1 == 1 {
			wantSettle(t, c, holders[k], true)
		} else {
			wantRelease(t, c, holders[k], true)
		}
		if in := c.Interval(); in.Lo < e.Bounds().Lo || in.Hi > e.Bounds().Hi {
			t.Fatalf("P10.8: on the way %v, within %v", in, e.Bounds())
		}
	}
	return c
}

func TestAnyEndInAnyOrder(t *testing.T) {
	for _, c := range []struct {
		bounds api.Range
		value  int64
		nets   []int64
	}{
		{between(0, 10), 5, []int64{4, -5, 1, 0}},
		{between(least, most), 0, []int64{most - 1, least + 1, 1, -1}},
		{between(least, most), least, []int64{most, most, 1}},
		{between(least, most), most, []int64{least, least + 1}},
		{between(-3, 3), 3, []int64{-1, -2, -3}},
	} {
		e := made(t, c.bounds, c.value)
		for k, net := range c.nets {
			wantAdd(t, e, 7*k+1, net, api.OK)
		}
		holders := e.Holders()
		for set := range 1 << len(holders) {
			want := c.value
			for k, net := range c.nets {
				if set>>k&1 == 1 {
					want += net
				}
			}
			permuted(len(holders), func(order []int) {
				wantState(t, end(t, e, holders, order, set), between(want, want), want, want)
			})
		}
	}
}
