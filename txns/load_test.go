package txns_test

import (
	"math"
	"math/rand/v2"
	"slices"
	"testing"

	"quota/api"
	"quota/record"
	"quota/txns"
)

func wantNoLoad(t *testing.T, next int, live ...api.Live) {
	t.Helper()
	if x, fault := txns.Load(api.Points{Live: live, Next: next}); x != nil || fault != api.ErrField {
		t.Errorf("P13.2: Load(%v, %d) = %v, %d, want ErrField", live, next, x, fault)
	}
}

func TestExamplesOfLoad(t *testing.T) {
	wantState(t, loaded(t, 4, undoing(2, 9), open(3, 11)), 4, undoing(2, 9), open(3, 11))
	wantNoLoad(t, 4, open(3, 1), open(3, 2))
	wantNoLoad(t, 4, open(4, 1))
}

func TestLoadNeedsANextWithinTheLimits(t *testing.T) {
	for _, n := range []int{math.MinInt, -1 << 32, -1, 0, 1<<31 + 1, 1<<32 + 1, math.MaxInt} {
		wantNoLoad(t, n)
		wantNoLoad(t, n, open(1, 1))
	}
	for _, n := range []int{1, 2, 77, 1<<31 - 1, 1 << 31} {
		wantState(t, loaded(t, n), n)
	}
	if x, fault := txns.Load(api.Points{Live: []api.Live{}, Next: 3}); x == nil || fault != api.OK {
		t.Errorf("P13.2: Load of an empty list = %v, %d", x, fault)
	}
}

func TestLoadNeedsLiveThatMayBe(t *testing.T) {
	for _, tx := range []int{math.MinInt, -1, 0, 9, 10, 1 << 31, math.MaxInt} {
		wantNoLoad(t, 9, open(tx, 1))
		wantNoLoad(t, 9, open(1, 1), open(tx, 2), open(8, 3))
	}
	for _, last := range wrongNumbers {
		wantNoLoad(t, 9, open(1, last))
		wantNoLoad(t, 9, open(1, 1), committed(2, 1<<31-1), undoing(8, last))
	}
	both := api.Live{Tx: 4, Last: 2, Committed: true, Undoing: true}
	wantNoLoad(t, 9, both)
	wantNoLoad(t, 9, open(1, 1), both)
	wantNoLoad(t, 9, both, open(5, 1))
	wantNoLoad(t, 9, open(2, 1), open(1, 2))
	wantNoLoad(t, 9, open(1, 1), open(3, 1), open(3, 1))
	wantNoLoad(t, 9, open(1, 1), open(3, 1), open(2, 1), open(4, 1))
	wantState(t, loaded(t, 9, open(1, 1<<31-1), committed(5, 1), undoing(8, 1)), 9, open(1, 1<<31-1), committed(5, 1), undoing(8, 1))
	wantState(t, loaded(t, 1<<31, open(1<<31-1, 1)), 1<<31, open(1<<31-1, 1))
	wantNoLoad(t, 1<<31, open(1<<31, 1))
}

func TestLoadOfAsManyAsMayLive(t *testing.T) {
	var live []api.Live
	for tx := 1; tx <= 33; tx++ {
		live = append(live, open(tx, 40+tx))
	}
	wantNoLoad(t, 100, live...)
	x := loaded(t, 100, live[1:]...)
	wantState(t, x, 100, live[1:]...)
	wantMany(t, x)
}

func TestLoadDoesNotLookAtDirtyPages(t *testing.T) {
	dirty := make([]api.Dirty, 40)
	dirty[3] = api.Dirty{Page: -1, Since: math.MinInt}
	x, fault := txns.Load(api.Points{Live: []api.Live{open(1, 2)}, Dirty: dirty, Next: 2})
	if x == nil || fault != api.OK {
		t.Fatalf("P13.2: Load = %v, %d", x, fault)
	}
	wantState(t, x, 2, open(1, 2))
}

// oddPoints: near the limits; about every other one may be a table's.
func oddPoints(rnd *rand.Rand) api.Points {
	p := api.Points{Next: []int{0, 1, 2, 5, 40, 1<<31 - 1, 1 << 31, 1<<31 + 1}[rnd.IntN(8)]}
	tx := 0
	for range []int{0, 1, 2, 3, 31, 32, 33}[rnd.IntN(7)] {
		tx += 1
		x := api.Live{Tx: tx, Last: 1 + rnd.IntN(9), Committed: rnd.IntN(3) == 0}
		x.Undoing = !x.Committed && rnd.IntN(2) == 0
		p.Live = append(p.Live, x)
	}
	if len(p.Live) == 0 || rnd.IntN(2) == 0 {
		return p
	}
	x := &p.Live[rnd.IntN(len(p.Live))]
	switch rnd.IntN(4) {
	case 0:
		x.Tx += rnd.IntN(5) - 2
	case 1:
		x.Last = []int{-1, 0, 1, 1<<31 - 1, 1 << 31, math.MinInt}[rnd.IntN(6)]
	case 2:
		x.Committed, x.Undoing = true, rnd.IntN(2) == 0
	case 3:
		p.Next = p.Live[len(p.Live)-1].Tx + rnd.IntN(3)
	}
	return p
}

// TestLoadTakesWhatACheckpointMayHold: chapter 5 says of a checkpoint's Live and Next what chapter 13 says of a table's.
func TestLoadTakesWhatACheckpointMayHold(t *testing.T) {
	rnd := drawn()
	counts := map[api.Errno]int{}
	for range 20_000 {
		p := oddPoints(rnd)
		x, fault := txns.Load(p)
		if want := record.Check(api.Record{Kind: api.Checkpoint, Points: p}); fault != want || (x != nil) != (want == api.OK) {
			t.Fatalf("P13.2: Load(%v) = %v, %d, want %d", p, x, fault, want)
		}
		if x != nil && !tell(x).same(told{p.Live, p.Next}) {
			t.Fatalf("P13.2: Load(%v) tells %v", p, tell(x))
		}
		counts[fault]++
	}
	if counts[api.OK] < 2000 || counts[api.ErrField] < 2000 {
		t.Errorf("the draw is lopsided: %v", counts)
	}
}

// scribble writes over all of a list's memory, spare room too.
func scribble(list []api.Live) {
	list = list[:cap(list)]
	for i := range list {
		list[i] = api.Live{Tx: -7, Last: -7, Committed: true, Undoing: true}
	}
}

func TestListsAreNewMemory(t *testing.T) {
	want := []api.Live{open(2, 3), committed(4, 9), undoing(5, 7)}
	x := loaded(t, 8, want...)
	a, b := x.Live(), x.Live()
	scribble(a)
	if !slices.Equal(b, want) {
		t.Errorf("P13.1: two lists share memory: %v", b)
	}
	scribble(b)
	wantState(t, x, 8, want...)
	wantBegin(t, x, 10, 8)
	wantNote(t, x, rec(api.Add, 2, 3, 11), api.OK)
}

func TestLoadKeepsNothingThatIsHandedIn(t *testing.T) {
	spare := undoing(6, 6)
	live := []api.Live{open(1, 1), committed(3, 2), spare, spare}[:2]
	dirty := []api.Dirty{{Page: 1, Since: 2}}
	x, fault := txns.Load(api.Points{Live: live, Dirty: dirty, Next: 4})
	if x == nil || fault != api.OK {
		t.Fatalf("P13.2: Load = %v, %d", x, fault)
	}
	wantBegin(t, x, 5, 4)
	wantNote(t, x, rec(api.Abort, 1, 1, 6), api.OK)
	wantNote(t, x, rec(api.End, 3, 2, 7), api.OK)
	if !slices.Equal(live[:4], []api.Live{open(1, 1), committed(3, 2), spare, spare}) || dirty[0] != (api.Dirty{Page: 1, Since: 2}) {
		t.Errorf("P13.1: what was handed in is %v, %v now", live[:4], dirty)
	}
	scribble(live)
	wantState(t, x, 5, undoing(1, 6), open(4, 5))
}

func TestTablesKnowNothingOfOneAnother(t *testing.T) {
	p := api.Points{Live: []api.Live{open(1, 1), committed(2, 2)}, Next: 3}
	a, _ := txns.Load(p)
	b, _ := txns.Load(p)
	c, d := fresh(t, 3), fresh(t, 3)
	wantBegin(t, a, 9, 3)
	wantNote(t, a, rec(api.End, 2, 2, 10), api.OK)
	wantBegin(t, c, 5, 3)
	wantState(t, b, 3, open(1, 1), committed(2, 2))
	wantState(t, d, 3)
	wantNote(t, b, rec(api.Commit, 1, 1, 4), api.OK)
	wantState(t, a, 4, open(1, 1), open(3, 9))
	wantState(t, c, 4, open(3, 5))
}
