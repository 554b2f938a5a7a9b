package ledger_test

import (
	"slices"
	"testing"

	"quota/api"
	"quota/ledger"
)

// scribble writes over all of a list's memory, spare room too.
func scribble[T any](list []T, with T) {
	list = list[:cap(list)]
	for i := range list {
		list[i] = with
	}
}

// full: of each transaction an odd number of counters, so that a list that grows has spare room which a copy might share.
func full(t *testing.T) *ledger.Ledger {
	t.Helper()
	l := loaded(t, counter(4, 2, -9, 9, 1), counter(1, 7, -9, 9, 2), counter(9, 2, -9, 9, 3), counter(6, 1, -9, 9, 4), counter(8, 1, -9, 9, 5))
	for k, id := range []int{9, 1, 6, 4, 8} {
		wantAdd(t, l, 3, id, int64(k)-2, api.OK)
		wantAdd(t, l, 5, id, 1, api.OK)
	}
	return l
}

func TestListsAreNewMemory(t *testing.T) {
	l := full(t)
	before := tell(l, some...)
	counters, groups, holdings := l.Counters(), l.Groups(), l.Holdings(3)
	counters2, groups2, holdings2 := l.Counters(), l.Groups(), l.Holdings(3)
	scribble(counters, api.Counter{ID: -7})
	scribble(groups, api.Group{ID: -7})
	scribble(holdings, api.Holding{Tx: -7})
	if !slices.Equal(counters2, before.counters) || !slices.Equal(groups2, before.groups) || !slices.Equal(holdings2, before.holdings[:5]) {
		t.Errorf("P11.1: two lists share memory: %v, %v, %v", counters2, groups2, holdings2)
	}
	scribble(counters2, api.Counter{ID: -7})
	scribble(groups2, api.Group{ID: -7})
	scribble(holdings2, api.Holding{Tx: -7})
	if c := l.Copy(); !tell(l, some...).same(before) || !tell(c, some...).same(before) {
		t.Errorf("P11.1: lists that were written over have made %+v of %+v", tell(l, some...), before)
	}
}

func TestWhatIsLoadedIsLeftAlone(t *testing.T) {
	all := []api.Counter{counter(4, 2, -9, 9, 1), counter(1, 7, -9, 9, 2), counter(3, 2, 0, 0, 0), counter(0, 0, 1, 0, 5)}
	want := slices.Clone(all)
	l := loaded(t, all[:2]...)
	if !slices.Equal(all, want) {
		t.Errorf("P11.1: Load has made %v of %v", all, want)
	}
	wantLoad(t, api.ErrPlace, all...)
	if !slices.Equal(all, want) {
		t.Errorf("P11.1: a refused Load has made %v of %v", all, want)
	}
	scribble(all, counter(8, 8, 8, 8, 8))
	wantCounters(t, l, want[1], want[0])
	wantGroup(t, l, 2, 1, 1, 1)
}

// TestCopiesShareNothing: what a transaction goes on to hold in one ledger is not held in another, in whichever it was first.
func TestCopiesShareNothing(t *testing.T) {
	l := full(t)
	a, b := l.Copy(), l.Copy()
	before := tell(l, some...)
	for _, c := range []*ledger.Ledger{a, b} {
		wantCreate(t, c, counter(2, 3, 0, 9, 0), api.OK)
		wantCreate(t, c, counter(3, 3, 0, 9, 0), api.OK)
	}
	wantAdd(t, a, 3, 2, 1, api.OK)
	wantAdd(t, b, 3, 3, 2, api.OK)
	wantAdd(t, a, 8, 2, 1, api.OK)
	wantNoGroup(t, l, 3)
	wantHoldings(t, b, 8)
	wantSettle(t, a, 3, 6)
	wantRelease(t, b, 5, 5)
	if !tell(l, some...).same(before) {
		t.Errorf("P11.1: copies have made %+v of %+v", tell(l, some...), before)
	}
	wantSettle(t, b, 3, 6)
	wantRead(t, b, 3, 2, 2)
	wantRead(t, b, 2, 0, 0)
	wantRead(t, a, 2, 1, 2)
	wantRead(t, a, 3, 0, 0)
}

// TestManyCounters: no delta and no end waits for a look at all of them.
func TestManyCounters(t *testing.T) {
	const n = 100_000
	list := make([]api.Counter, 0, n)
	for id := n; id >= 1; id-- {
		list = append(list, counter(id, 1+id%2, -10, 10, 1))
	}
	l := loaded(t, list...)
	for id := 1; id <= n; id++ {
		if fault := l.Add(id%1000+1+id, id, 2); fault != api.OK {
			t.Fatalf("P11.4: Add to %d = %d", id, fault)
		}
	}
	wantGroup(t, l, 1, 3*n/2, n/2, 3*n/2)
	for id := 1; id <= n; id++ {
		l.Settle(id%1000 + 1 + id)
	}
	wantGroup(t, l, 2, 3*n/2, 3*n/2, 3*n/2)
	told := l.Counters()
	if len(told) != n || told[0] != counter(1, 2, -10, 10, 3) || told[n-1] != counter(n, 1, -10, 10, 3) {
		t.Errorf("P11.9: %d counters, %v to %v", len(told), told[0], told[len(told)-1])
	}
}
