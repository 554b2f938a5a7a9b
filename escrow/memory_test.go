package escrow_test

import (
	"slices"
	"testing"

	"quota/api"
)

// scribble writes over all of a list's memory, spare room too.
func scribble(list []int) {
	list = list[:cap(list)]
	for i := range list {
		list[i] = -7
	}
}

func TestHoldersAreNewMemory(t *testing.T) {
	e := made(t, between(-100, 100), 0)
	for _, tx := range []int{9, 4, 1 << 30, 6, 2, 5} {
		wantAdd(t, e, tx, int64(tx%7)-3, api.OK)
	}
	want := []int{2, 4, 5, 6, 9, 1 << 30}
	before := tell(e)
	a, b := e.Holders(), e.Holders()
	scribble(a)
	if !slices.Equal(b, want) {
		t.Errorf("P10.1: two lists share memory: %v", b)
	}
	scribble(b)
	if c := e.Copy(); !tell(e).same(before) || !tell(c).same(before) {
		t.Errorf("P10.1: a list that was written over has made %+v of %+v", tell(e), before)
	}
}

// TestManyHolders: no delta waits for a look at all of them.
func TestManyHolders(t *testing.T) {
	const n = 200_000
	e := made(t, between(-n, n), 0)
	for tx := n; tx >= 1; tx-- {
		if fault := e.Add(tx, int64(1-tx%2*2)); fault != api.OK {
			t.Fatalf("P10.4: Add(%d) = %d", tx, fault)
		}
	}
	if got := e.Interval(); got != between(-n/2, n/2) {
		t.Errorf("P10.7: Interval = %v", got)
	}
	list := e.Holders()
	if len(list) != n || list[0] != 1 || list[n-1] != n || !slices.IsSorted(list) {
		t.Errorf("P10.7: %d holders", len(list))
	}
	for _, tx := range list {
		if !e.Release(tx) {
			t.Fatalf("P10.6: Release(%d) = false", tx)
		}
	}
	wantState(t, e, between(0, 0), 0, 0)
}
