package ledger_test

import (
	"math"
	"math/rand/v2"
	"slices"
	"testing"

	"quota/api"
	"quota/ledger"
)

const (
	most  = math.MaxInt64
	least = math.MinInt64
)

func drawn() *rand.Rand { return rand.New(rand.NewPCG(11, 0)) }

func between(lo, hi int64) api.Range { return api.Range{Lo: lo, Hi: hi} }

func counter(id, group int, lo, hi, value int64) api.Counter {
	return api.Counter{ID: id, Group: group, Bounds: between(lo, hi), Value: value}
}

// loaded: a ledger that must be one.
func loaded(t *testing.T, list ...api.Counter) *ledger.Ledger {
	t.Helper()
	l, fault := ledger.Load(list)
	if fault != api.OK || l == nil {
		t.Fatalf("P11.2: Load(%v) = %v, %d", list, l, fault)
	}
	return l
}

// told: all that a ledger says of itself, of these transactions.
type told struct {
	counters []api.Counter
	groups   []api.Group
	reads    []api.Range
	worst    []api.Range
	holdings []api.Holding
}

func tell(l *ledger.Ledger, txs ...int) told {
	out := told{counters: l.Counters(), groups: l.Groups()}
	for _, c := range out.counters {
		r, _ := l.Read(c.ID)
		out.reads = append(out.reads, r)
	}
	for _, g := range out.groups {
		w, _ := l.Worst(g.ID)
		out.worst = append(out.worst, w)
	}
	for _, tx := range txs {
		out.holdings = append(out.holdings, l.Holdings(tx)...)
	}
	return out
}

func (a told) same(b told) bool {
	return slices.Equal(a.counters, b.counters) && slices.Equal(a.groups, b.groups) && slices.Equal(a.reads, b.reads) &&
		slices.Equal(a.worst, b.worst) && slices.Equal(a.holdings, b.holdings)
}

var some = []int{1, 2, 3, 4, 5, 6, 7, 8, 9, api.MaxTx}

func wantCreate(t *testing.T, l *ledger.Ledger, c api.Counter, want api.Errno) {
	t.Helper()
	before := tell(l, some...)
	if got := l.Create(c); got != want {
		t.Errorf("P11.2: Create(%v) = %d, want %d", c, got, want)
	}
	if want != api.OK && !tell(l, some...).same(before) {
		t.Errorf("P11.1: Create(%v), refused, has made %+v of %+v", c, tell(l, some...), before)
	}
}

func wantLoad(t *testing.T, want api.Errno, list ...api.Counter) {
	t.Helper()
	if l, got := ledger.Load(list); got != want || (l == nil) != (want != api.OK) {
		t.Errorf("P11.2: Load(%v) = %v, %d, want %d", list, l, got, want)
	}
}

func wantAdd(t *testing.T, l *ledger.Ledger, tx, counter int, delta int64, want api.Errno) {
	t.Helper()
	before := tell(l, some...)
	if got := l.May(tx, counter, delta); got != want {
		t.Errorf("P11.3: May(%d, %d, %d) = %d, want %d", tx, counter, delta, got, want)
	}
	if !tell(l, some...).same(before) {
		t.Errorf("P11.3: May(%d, %d, %d) has made %+v of %+v", tx, counter, delta, tell(l, some...), before)
	}
	if got := l.Add(tx, counter, delta); got != want {
		t.Errorf("P11.4: Add(%d, %d, %d) = %d, want %d", tx, counter, delta, got, want)
	}
	if want != api.OK && !tell(l, some...).same(before) {
		t.Errorf("P11.1: Add(%d, %d, %d), refused, has made %+v of %+v", tx, counter, delta, tell(l, some...), before)
	}
}

func wantHoldings(t *testing.T, l *ledger.Ledger, tx int, want ...api.Holding) {
	t.Helper()
	if got := l.Holdings(tx); !slices.Equal(got, want) {
		t.Errorf("P11.5: Holdings(%d) = %v, want %v", tx, got, want)
	}
}

func wantSettle(t *testing.T, l *ledger.Ledger, tx, want int) {
	t.Helper()
	if got := l.Settle(tx); got != want {
		t.Errorf("P11.6: Settle(%d) = %d, want %d", tx, got, want)
	}
}

func wantRelease(t *testing.T, l *ledger.Ledger, tx, want int) {
	t.Helper()
	if got := l.Release(tx); got != want {
		t.Errorf("P11.6: Release(%d) = %d, want %d", tx, got, want)
	}
}

func wantRead(t *testing.T, l *ledger.Ledger, counter int, lo, hi int64) {
	t.Helper()
	if got, fault := l.Read(counter); got != between(lo, hi) || fault != api.OK {
		t.Errorf("P11.7: Read(%d) = %v, %d, want %d to %d", counter, got, fault, lo, hi)
	}
}

func wantNoRead(t *testing.T, l *ledger.Ledger, counter int) {
	t.Helper()
	if got, fault := l.Read(counter); got != (api.Range{}) || fault != api.ErrCounter {
		t.Errorf("P11.7: Read(%d) = %v, %d, want ErrCounter", counter, got, fault)
	}
}

func wantGroup(t *testing.T, l *ledger.Ledger, group int, sum, lo, hi int64) {
	t.Helper()
	if got, fault := l.Sum(group); got != sum || fault != api.OK {
		t.Errorf("P11.8: Sum(%d) = %d, %d, want %d", group, got, fault, sum)
	}
	if got, fault := l.Worst(group); got != between(lo, hi) || fault != api.OK {
		t.Errorf("P11.8: Worst(%d) = %v, %d, want %d to %d", group, got, fault, lo, hi)
	}
}

func wantNoGroup(t *testing.T, l *ledger.Ledger, group int) {
	t.Helper()
	if got, fault := l.Sum(group); got != 0 || fault != api.ErrGroup {
		t.Errorf("P11.8: Sum(%d) = %d, %d, want ErrGroup", group, got, fault)
	}
	if got, fault := l.Worst(group); got != (api.Range{}) || fault != api.ErrGroup {
		t.Errorf("P11.8: Worst(%d) = %v, %d, want ErrGroup", group, got, fault)
	}
}

func wantCounters(t *testing.T, l *ledger.Ledger, want ...api.Counter) {
	t.Helper()
	if got := l.Counters(); !slices.Equal(got, want) {
		t.Errorf("P11.9: Counters = %v, want %v", got, want)
	}
}

func wantGroups(t *testing.T, l *ledger.Ledger, want ...api.Group) {
	t.Helper()
	if got := l.Groups(); !slices.Equal(got, want) {
		t.Errorf("P11.9: Groups = %v, want %v", got, want)
	}
}

func TestExampleOfTwoCounters(t *testing.T) {
	l := ledger.New()
	wantCreate(t, l, counter(1, 1, 0, 100, 50), api.OK)
	wantCreate(t, l, counter(2, 1, 0, 100, 20), api.OK)
	wantCreate(t, l, counter(1, 1, 0, 100, 50), api.ErrTwice)
	wantCreate(t, l, counter(0, 1, 0, 100, 50), api.ErrPlace)
	wantCreate(t, l, counter(3, 1, 2, 1, 0), api.ErrRange)
	wantCreate(t, l, counter(3, 1, 0, 1, 7), api.ErrBounds)
	wantAdd(t, l, 1, 1, -50, api.OK)
	wantAdd(t, l, 2, 1, -1, api.ErrBounds)
	wantAdd(t, l, 1, 2, 80, api.OK)
	wantGroup(t, l, 1, 100, 20, 150)
	wantRead(t, l, 1, 0, 50)
	wantNoRead(t, l, 9)
	wantNoGroup(t, l, 9)
	wantHoldings(t, l, 1, api.Holding{Tx: 1, Counter: 1, Delta: -50}, api.Holding{Tx: 1, Counter: 2, Delta: 80})
	wantHoldings(t, l, 2)
	wantCounters(t, l, counter(1, 1, 0, 100, 0), counter(2, 1, 0, 100, 100))
	wantGroups(t, l, api.Group{ID: 1, Sum: 100})
	wantSettle(t, l, 1, 2)
	wantSettle(t, l, 1, 0)
	wantRead(t, l, 1, 0, 0)
	wantRead(t, l, 2, 100, 100)
	wantGroup(t, l, 1, 100, 100, 100)
}

func TestExampleOfLoad(t *testing.T) {
	const m = most
	l := loaded(t)
	wantCounters(t, l)
	wantGroups(t, l)
	three := []api.Counter{counter(1, 1, -m, m, m), counter(2, 1, 0, 5, 1), counter(3, 1, -9, 0, -4)}
	l = loaded(t, three...)
	wantGroup(t, l, 1, m-3, m-3, m-3)
	wantCounters(t, l, three...)
	wantLoad(t, api.ErrOverflow, three[:2]...)
	wantLoad(t, api.ErrTwice, counter(1, 1, 0, 1, 0), counter(1, 1, 0, 1, 0))
	wantLoad(t, api.ErrRange, counter(1, 1, 2, 1, 0), counter(0, 1, 0, 1, 0))
}

func TestExampleOfAFarGroup(t *testing.T) {
	const m = most
	l := ledger.New()
	wantCreate(t, l, counter(1, 1, -m, m, m), api.OK)
	wantCreate(t, l, counter(2, 1, 0, 5, 1), api.ErrOverflow)
	wantCreate(t, l, counter(2, 1, -5, 5, 0), api.OK)
	wantAdd(t, l, 1, 1, -10, api.OK)
	wantAdd(t, l, 2, 2, 5, api.ErrOverflow)
	wantSettle(t, l, 1, 1)
	wantAdd(t, l, 2, 2, 5, api.OK)
	wantAdd(t, l, 3, 9, 1, api.ErrCounter)
	wantAdd(t, l, 0, 9, 1, api.ErrTx)
}

// TestAnEmptyLedger: nothing is there, and nobody holds anything, whatever is asked.
func TestAnEmptyLedger(t *testing.T) {
	for _, l := range []*ledger.Ledger{ledger.New(), loaded(t), ledger.New().Copy()} {
		for _, n := range []int{math.MinInt, -1, 0, 1, api.MaxCounter, api.MaxCounter + 1, api.MaxTx, math.MaxInt} {
			wantNoRead(t, l, n)
			wantNoGroup(t, l, n)
			wantHoldings(t, l, n)
			wantSettle(t, l, n, 0)
			wantRelease(t, l, n, 0)
			wantAdd(t, l, 1, n, 0, api.ErrCounter)
		}
		wantCounters(t, l)
		wantGroups(t, l)
	}
}

// wrong: what is the matter with a counter by itself, if counter 5 is there.
func wrong() []struct {
	c    api.Counter
	want api.Errno
} {
	return []struct {
		c    api.Counter
		want api.Errno
	}{
		{counter(0, 1, 0, 1, 0), api.ErrPlace},
		{counter(-1, 1, 0, 1, 0), api.ErrPlace},
		{counter(math.MinInt, 1, 0, 1, 0), api.ErrPlace},
		{counter(api.MaxCounter+1, 1, 0, 1, 0), api.ErrPlace},
		{counter(math.MaxInt, 1, 0, 1, 0), api.ErrPlace},
		{counter(7, 0, 0, 1, 0), api.ErrPlace},
		{counter(7, -1, 0, 1, 0), api.ErrPlace},
		{counter(7, math.MinInt, 0, 1, 0), api.ErrPlace},
		{counter(7, api.MaxGroup+1, 0, 1, 0), api.ErrPlace},
		{counter(7, math.MaxInt, 0, 1, 0), api.ErrPlace},
		{counter(5, 0, 1, 0, 9), api.ErrPlace},
		{counter(0, 1, 1, 0, 9), api.ErrPlace},
		{counter(5, 1, 0, 1, 0), api.ErrTwice},
		{counter(5, 2, 0, 1, 0), api.ErrTwice},
		{counter(5, 1, 1, 0, 9), api.ErrTwice},
		{counter(5, 1, 0, 1, 9), api.ErrTwice},
		{counter(7, 1, 1, 0, 9), api.ErrRange},
		{counter(7, 1, 1, 0, 1), api.ErrRange},
		{counter(7, 1, most, least, most), api.ErrRange},
		{counter(7, 1, 0, most-1, most), api.ErrBounds},
		{counter(7, 1, 0, 1, 2), api.ErrBounds},
		{counter(7, 1, 0, 1, -1), api.ErrBounds},
		{counter(7, 1, 0, 1, least), api.ErrBounds},
	}
}

func TestWrongCountersAreRefused(t *testing.T) {
	five := counter(5, 1, 0, most, most)
	for _, w := range wrong() {
		l := loaded(t, five)
		wantCreate(t, l, w.c, w.want)
		wantNoRead(t, l, 7)
		wantNoGroup(t, l, 2)
		wantLoad(t, w.want, five, w.c)
		wantLoad(t, w.want, counter(9, 1, most, most, most), five, w.c)
		wantLoad(t, w.want, five, w.c, counter(0, 0, 0, 0, 0), counter(5, 1, 0, 0, 0))
	}
}

func TestTheEdgesOfTheNumbers(t *testing.T) {
	l := ledger.New()
	a, b := counter(1, api.MaxGroup, least, least, least), counter(api.MaxCounter, 1, least, most, most)
	wantCreate(t, l, b, api.OK)
	wantCreate(t, l, a, api.OK)
	wantCounters(t, l, a, b)
	wantGroups(t, l, api.Group{ID: 1, Sum: most}, api.Group{ID: api.MaxGroup, Sum: least})
	wantCounters(t, loaded(t, b, a), a, b)
	wantAdd(t, l, api.MaxTx, api.MaxCounter, least, api.OK)
	wantHoldings(t, l, api.MaxTx, api.Holding{Tx: api.MaxTx, Counter: api.MaxCounter, Delta: least})
	wantGroup(t, l, 1, -1, -1, most)
}

// TestErrorsOfAnAddInOrder: each fault in turn is ahead of those behind it.
func TestErrorsOfAnAddInOrder(t *testing.T) {
	l := loaded(t, counter(1, 1, 0, 10, 5), counter(2, 2, least, most, least), counter(3, 3, least, most, most), counter(4, 3, -5, 5, 0))
	for _, tx := range []int{math.MinInt, -1, 0, api.MaxTx + 1, math.MaxInt} {
		for _, id := range []int{1, 9, 0, -1} {
			wantAdd(t, l, tx, id, 100, api.ErrTx)
			wantAdd(t, l, tx, id, 0, api.ErrTx)
		}
		wantHoldings(t, l, tx)
		wantSettle(t, l, tx, 0)
		wantRelease(t, l, tx, 0)
	}
	for _, id := range []int{math.MinInt, -1, 0, 5, api.MaxCounter + 1, math.MaxInt} {
		wantAdd(t, l, 1, id, most, api.ErrCounter)
	}
	wantAdd(t, l, 1, 1, 6, api.ErrBounds)
	wantAdd(t, l, 1, 2, most, api.OK)
	wantAdd(t, l, 1, 2, 1, api.ErrOverflow)
	wantAdd(t, l, 1, 4, 6, api.ErrBounds)
	wantAdd(t, l, 1, 4, 1, api.ErrOverflow)
	wantAdd(t, l, 1, 4, -1, api.OK)
	wantAdd(t, l, 1, 4, 1, api.OK)
	wantHoldings(t, l, 1, api.Holding{Tx: 1, Counter: 2, Delta: most}, api.Holding{Tx: 1, Counter: 4, Delta: 0})
}

// TestAGroupsBothEnds: the greatest and the least sum that may come are the group's last ones.
func TestAGroupsBothEnds(t *testing.T) {
	up := loaded(t, counter(1, 1, 0, most, most-5), counter(2, 1, -9, 9, 0), counter(3, 2, 0, most, 1))
	wantAdd(t, up, 1, 2, 3, api.OK)
	wantAdd(t, up, 2, 2, 3, api.ErrOverflow)
	wantAdd(t, up, 2, 2, 2, api.OK)
	wantGroup(t, up, 1, most, most-5, most)
	wantAdd(t, up, 3, 1, -1, api.OK)
	wantAdd(t, up, 3, 1, 2, api.ErrOverflow)
	wantAdd(t, up, 3, 1, 1, api.OK)
	wantAdd(t, up, 3, 3, most-1, api.OK)

	down := loaded(t, counter(1, 1, least, 0, least+5), counter(2, 1, -9, 9, 0), counter(3, 2, least, 0, -1))
	wantAdd(t, down, 1, 2, -3, api.OK)
	wantAdd(t, down, 2, 2, -3, api.ErrOverflow)
	wantAdd(t, down, 2, 2, -2, api.OK)
	wantGroup(t, down, 1, least, least, least+5)
	wantAdd(t, down, 3, 1, 1, api.OK)
	wantAdd(t, down, 3, 1, -2, api.ErrOverflow)
	wantAdd(t, down, 3, 1, -1, api.OK)
	wantAdd(t, down, 3, 3, least+1, api.OK)
}

// TestEachNetByItself: one transaction's nets of two counters do not make up for each other.
func TestEachNetByItself(t *testing.T) {
	l := loaded(t, counter(1, 1, 0, most, most), counter(2, 1, -9, 9, 0))
	wantAdd(t, l, 1, 1, -9, api.OK)
	wantAdd(t, l, 1, 2, 9, api.ErrOverflow)
	wantGroup(t, l, 1, most-9, most-9, most)
	wantRelease(t, l, 1, 1)
	wantAdd(t, l, 1, 2, 9, api.ErrOverflow)
	wantAdd(t, l, 1, 1, -9, api.OK)
	wantSettle(t, l, 1, 1)
	wantAdd(t, l, 1, 2, 9, api.OK)
}

// TestANewCounterMovesTheWholeWorstCase: both ends are asked, of a value above 0 and of one below.
func TestANewCounterMovesTheWholeWorstCase(t *testing.T) {
	l := loaded(t, counter(1, 1, least, most, 0))
	wantAdd(t, l, 1, 1, most-3, api.OK)
	wantAdd(t, l, 2, 1, least+3, api.OK)
	wantCreate(t, l, counter(2, 1, 0, 9, 4), api.ErrOverflow)
	wantCreate(t, l, counter(2, 1, -9, 0, -4), api.ErrOverflow)
	wantCreate(t, l, counter(2, 1, 0, 9, 3), api.OK)
	wantGroup(t, l, 1, 2, least+6, most)
	wantCreate(t, l, counter(3, 1, 0, 9, 1), api.ErrOverflow)
	wantCreate(t, l, counter(3, 1, -9, 0, -7), api.ErrOverflow)
	wantCreate(t, l, counter(3, 1, -9, 0, -6), api.OK)
	wantGroup(t, l, 1, -4, least, most-6)
	wantCreate(t, l, counter(4, 1, -9, 0, -1), api.ErrOverflow)
	wantCreate(t, l, counter(4, 1, 0, most, most), api.ErrOverflow)
	wantCreate(t, l, counter(4, 1, least, 0, least), api.ErrOverflow)
	wantCreate(t, l, counter(4, 2, least, 0, least), api.OK)
}

// TestLoadAsksOnlyTheWholeSums: what lies in between is not asked; each group's by itself.
func TestLoadAsksOnlyTheWholeSums(t *testing.T) {
	a, b, c, d := counter(1, 1, most, most, most), counter(2, 1, most, most, most), counter(3, 1, least, least, least), counter(4, 1, least, least, least)
	l := loaded(t, a, b, c, d)
	wantGroup(t, l, 1, -2, -2, -2)
	wantCounters(t, l, a, b, c, d)
	wantLoad(t, api.ErrOverflow, a, b, c, counter(4, 2, least, least, least), counter(5, 1, 2, 2, 2))
	wantLoad(t, api.OK, a, b, c, counter(4, 2, least, least, least))
	wantLoad(t, api.ErrOverflow, c, d)
	wantLoad(t, api.ErrOverflow, counter(8, 9, 0, 0, 0), c, counter(4, 1, -1, 0, -1))
	wantLoad(t, api.OK, counter(1, 1, most, most, most), counter(2, 2, most, most, most))
}

// TestGroupsAreThereWithTheirFirstCounter: a refused one makes none.
func TestGroupsAreThereWithTheirFirstCounter(t *testing.T) {
	l := ledger.New()
	wantCreate(t, l, counter(1, 7, 0, 1, 2), api.ErrBounds)
	wantNoGroup(t, l, 7)
	wantCreate(t, l, counter(1, 7, 0, 1, 0), api.OK)
	wantGroup(t, l, 7, 0, 0, 0)
	wantNoGroup(t, l, 1)
	wantNoRead(t, l, 7)
	wantGroups(t, l, api.Group{ID: 7})
}

func TestARefusedDeltaHoldsNothing(t *testing.T) {
	l := loaded(t, counter(1, 1, 0, 1, 0), counter(2, 1, least, most, most), counter(3, 1, 0, 9, 0))
	wantAdd(t, l, 1, 1, 2, api.ErrBounds)
	wantAdd(t, l, 1, 3, 1, api.ErrOverflow)
	wantHoldings(t, l, 1)
	wantSettle(t, l, 1, 0)
	wantRelease(t, l, 1, 0)
	wantAdd(t, l, 1, 3, 0, api.OK)
	wantAdd(t, l, 1, 1, 0, api.OK)
	wantAdd(t, l, 1, 3, 0, api.OK)
	wantHoldings(t, l, 1, api.Holding{Tx: 1, Counter: 1}, api.Holding{Tx: 1, Counter: 3})
	wantRelease(t, l, 1, 2)
	wantHoldings(t, l, 1)
	wantRelease(t, l, 1, 0)
	wantSettle(t, l, 1, 0)
}

// TestEndsAreOneTransactions: the others' nets stay where they are.
func TestEndsAreOneTransactions(t *testing.T) {
	l := loaded(t, counter(1, 1, -100, 100, 0), counter(2, 2, -100, 100, 0), counter(3, 1, -100, 100, 0))
	wantAdd(t, l, 1, 3, 5, api.OK)
	wantAdd(t, l, 1, 2, -6, api.OK)
	wantAdd(t, l, 2, 3, -7, api.OK)
	wantAdd(t, l, 2, 1, 8, api.OK)
	wantAdd(t, l, 1, 1, -9, api.OK)
	wantGroup(t, l, 1, -3, -16, 13)
	wantGroup(t, l, 2, -6, -6, 0)
	own := l.Copy()
	wantSettle(t, l, 1, 3)
	wantGroup(t, l, 1, -3, -11, 4)
	wantGroup(t, l, 2, -6, -6, -6)
	wantHoldings(t, l, 1)
	wantHoldings(t, l, 2, api.Holding{Tx: 2, Counter: 1, Delta: 8}, api.Holding{Tx: 2, Counter: 3, Delta: -7})
	wantRead(t, l, 1, -9, -1)
	wantRelease(t, l, 2, 2)
	wantGroup(t, l, 1, -4, -4, -4)
	wantCounters(t, l, counter(1, 1, -100, 100, -9), counter(2, 2, -100, 100, -6), counter(3, 1, -100, 100, 5))

	wantRelease(t, own, 1, 3)
	wantGroup(t, own, 1, 1, -7, 8)
	wantGroup(t, own, 2, 0, 0, 0)
	wantAdd(t, own, 1, 1, 1, api.OK)
	wantSettle(t, own, 1, 1)
	wantSettle(t, own, 2, 2)
	wantCounters(t, own, counter(1, 1, -100, 100, 9), counter(2, 2, -100, 100, 0), counter(3, 1, -100, 100, -7))
}
