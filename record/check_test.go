package record_test

import (
	"math"
	"slices"
	"testing"

	"quota/api"
	"quota/record"
)

// wantCheck: as the model says; Encode says the same.
func wantCheck(t *testing.T, what string, r api.Record) api.Errno {
	t.Helper()
	e := modelCheck(r)
	if e == api.OK {
		wantBytes(t, r, modelBytes(r))
	} else {
		wantRefused(t, what, r, e)
	}
	return e
}

// own: the record with lists of its own.
func own(r api.Record) api.Record {
	r.Points.Live, r.Points.Dirty = slices.Clone(r.Points.Live), slices.Clone(r.Points.Dirty)
	return r
}

func TestKinds(t *testing.T) {
	for _, k := range []api.Kind{math.MinInt, math.MinInt32, -8, -1, 0, 9, 10, 257, 1<<32 + 1, math.MaxInt} {
		wantRefused(t, "no kind", api.Record{Kind: k}, api.ErrKind)
		for _, kind := range every {
			r := example(kind)
			r.Kind = k
			wantRefused(t, "no kind", r, api.ErrKind)
			r.Tx, r.LSN = -1, -1
			wantRefused(t, "ErrKind comes ahead of ErrField", r, api.ErrKind)
		}
	}
	for i, k := range every {
		if int(k) != i+1 {
			t.Errorf("kind number %d has the number %d", i+1, k)
		}
	}
}

// TestEveryNumberOfEveryKind: at and around its bounds, and where the kind does not have it.
func TestEveryNumberOfEveryKind(t *testing.T) {
	for _, kind := range every {
		for _, n := range numbers() {
			for _, v := range []int{math.MinInt, math.MinInt32, -2, -1, 0, 1, 2, 5, 6, 29, 30, 31, 62, 63, 64, 82, 83, 84, 1<<20 - 1, 1 << 20, 1<<20 + 1, 1<<31 - 2, 1<<31 - 1, 1 << 31, 1<<31 + 1, 1<<32 + 1, math.MaxInt} {
				r := own(example(kind))
				*n.of(&r) = v
				wantCheck(t, n.name, r)
				want := api.OK
				if has := slices.Contains(n.kinds, kind); has && (v < n.least || v > n.most) || !has && v != 0 {
					want = api.ErrField
				}
				if e := record.Check(r); want != api.OK && e != want {
					t.Errorf("P5.2: kind %d with %s %d: %d", kind, n.name, v, e)
				}
			}
		}
	}
}

func TestFieldsThatAKindDoesNotHave(t *testing.T) {
	for _, kind := range every {
		for name, change := range map[string]func(r *api.Record){
			"Delta":          func(r *api.Record) { r.Delta = 1 },
			"a great Delta":  func(r *api.Record) { r.Delta = math.MinInt64 },
			"Bounds.Lo":      func(r *api.Record) { r.Counter.Bounds.Lo = -2 },
			"Bounds.Hi":      func(r *api.Record) { r.Counter.Bounds.Hi = 999 },
			"Value":          func(r *api.Record) { r.Counter.Value = 1 },
			"Live":           func(r *api.Record) { r.Points.Live = []api.Live{{Tx: 1, Last: 1}} },
			"Live of zeros":  func(r *api.Record) { r.Points.Live = make([]api.Live, 1) },
			"Dirty":          func(r *api.Record) { r.Points.Dirty = []api.Dirty{{Page: 1, Since: 1}} },
			"Dirty of zeros": func(r *api.Record) { r.Points.Dirty = make([]api.Dirty, 1) },
			"empty lists":    func(r *api.Record) { r.Points.Live, r.Points.Dirty = []api.Live{}, make([]api.Dirty, 0, 9) },
		} {
			r := own(example(kind))
			change(&r)
			wantCheck(t, name, r)
		}
	}
}

func TestEmptyListsAreZero(t *testing.T) {
	r := example(api.Begin)
	r.Points.Live, r.Points.Dirty = []api.Live{}, []api.Dirty{}
	wantBytes(t, r, []byte{1, 5})
}

func TestPrevIsBelowTheLSN(t *testing.T) {
	for _, kind := range ofPrev {
		for _, lsn := range []int{0, 1, 2, 300, api.MaxLSN - 1, api.MaxLSN} {
			for _, prev := range []int{1, 2, 299, 300, 301, api.MaxLSN - 1, api.MaxLSN} {
				r := example(kind)
				r.LSN, r.Prev = lsn, prev
				e := wantCheck(t, "Prev", r)
				if (e == api.OK) != (lsn == 0 || prev < lsn) {
					t.Errorf("P5.2: Prev %d of LSN %d: %d", prev, lsn, e)
				}
			}
		}
	}
	for _, kind := range []api.Kind{api.Begin, api.Create} {
		r := example(kind)
		r.LSN = 1
		if e := record.Check(r); e != api.OK {
			t.Errorf("P5.2: kind %d as the first record: %d", kind, e)
		}
	}
}

func TestPagesOfSlots(t *testing.T) {
	for _, kind := range ofSlots {
		for a := -1; a <= 64; a++ {
			for b := -1; b <= 64; b++ {
				r := example(kind)
				r.Where, r.Sums = api.Slot{Page: a, Index: 30}, api.Slot{Page: b, Index: 83}
				e := wantCheck(t, "pages", r)
				if may := a != b && min(a, b) >= 0 && max(a, b) <= 63; may != (e == api.OK) {
					t.Errorf("P5.2: pages %d and %d: %d", a, b, e)
				}
			}
		}
	}
}

func TestBoundsAndFirstValue(t *testing.T) {
	edges := []int64{math.MinInt64, math.MinInt64 + 1, -2, -1, 0, 1, 2, math.MaxInt64 - 1, math.MaxInt64}
	for _, lo := range edges {
		for _, hi := range edges {
			for _, value := range edges {
				r := example(api.Create)
				r.Counter.Bounds, r.Counter.Value = api.Range{Lo: lo, Hi: hi}, value
				e := wantCheck(t, "bounds", r)
				if may := lo <= value && value <= hi; may != (e == api.OK) {
					t.Errorf("P5.2: value %d in %d to %d: %d", value, lo, hi, e)
				}
			}
		}
	}
}

func TestAnyDelta(t *testing.T) {
	for _, kind := range ofDelta {
		for _, delta := range []int64{math.MinInt64, math.MinInt64 + 1, -1 << 32, -1, 0, 1, 1 << 32, math.MaxInt64} {
			r := example(kind)
			r.Delta = delta
			wantBytes(t, r, modelBytes(r))
		}
	}
}

// point: a checkpoint of these, without an LSN.
func point(next int, live []api.Live, dirty []api.Dirty) api.Record {
	return api.Record{Kind: api.Checkpoint, Points: api.Points{Next: next, Live: live, Dirty: dirty}}
}

func TestLive(t *testing.T) {
	two := func(a, b int) []api.Live { return []api.Live{{Tx: a, Last: 3}, {Tx: b, Last: 2}} }
	one := func(l api.Live) []api.Live { return []api.Live{l} }
	for _, c := range []struct {
		name string
		next int
		live []api.Live
		want api.Errno
	}{
		{"rising", 6, two(4, 5), api.OK},
		{"from 1 on", 3, two(1, 2), api.OK},
		{"the same twice", 6, two(4, 4), api.ErrField},
		{"falling", 6, two(5, 4), api.ErrField},
		{"the first is 0", 6, two(0, 1), api.ErrField},
		{"the first is below 0", 6, two(math.MinInt, 1), api.ErrField},
		{"the second is Next", 6, two(4, 6), api.ErrField},
		{"the second is beyond", 6, two(4, math.MaxInt), api.ErrField},
		{"the greatest", api.MaxTx + 1, two(api.MaxTx-1, api.MaxTx), api.OK},
		{"nobody is below Next 1", 1, one(api.Live{Tx: 1, Last: 1}), api.ErrField},
		{"Last 0", 6, one(api.Live{Tx: 5}), api.ErrField},
		{"Last -1", 6, one(api.Live{Tx: 5, Last: -1}), api.ErrField},
		{"the greatest Last", 6, one(api.Live{Tx: 5, Last: api.MaxLSN}), api.OK},
		{"Last too great", 6, one(api.Live{Tx: 5, Last: api.MaxLSN + 1}), api.ErrField},
		{"committed", 6, one(api.Live{Tx: 5, Last: 1, Committed: true}), api.OK},
		{"undoing", 6, one(api.Live{Tx: 5, Last: 1, Undoing: true}), api.OK},
		{"both", 6, one(api.Live{Tx: 5, Last: 1, Committed: true, Undoing: true}), api.ErrField},
		{"no Next, nobody", 0, nil, api.ErrField},
		{"no Next", math.MinInt, two(1, 2), api.ErrField},
		{"Next too great", api.MaxTx + 2, nil, api.ErrField},
	} {
		r := point(c.next, c.live, nil)
		if e := wantCheck(t, c.name, r); e != c.want {
			t.Errorf("P5.2: %s: %d, want %d", c.name, e, c.want)
		}
	}
}

func TestDirty(t *testing.T) {
	two := func(a, b int) []api.Dirty { return []api.Dirty{{Page: a, Since: 3}, {Page: b, Since: 2}} }
	one := func(page, since int) []api.Dirty { return []api.Dirty{{Page: page, Since: since}} }
	for _, c := range []struct {
		name  string
		dirty []api.Dirty
		want  api.Errno
	}{
		{"rising", two(0, 63), api.OK},
		{"the same twice", two(7, 7), api.ErrField},
		{"page 0 twice", two(0, 0), api.ErrField},
		{"falling", two(8, 7), api.ErrField},
		{"page -1", two(-1, 7), api.ErrField},
		{"the least int", two(math.MinInt, 7), api.ErrField},
		{"page 64", two(0, 64), api.ErrField},
		{"the greatest int", two(0, math.MaxInt), api.ErrField},
		{"Since 0", one(3, 0), api.ErrField},
		{"Since -1", one(3, -1), api.ErrField},
		{"Since 1", one(3, 1), api.OK},
		{"the greatest Since", one(3, api.MaxLSN), api.OK},
		{"Since too great", one(3, api.MaxLSN+1), api.ErrField},
	} {
		r := point(1, nil, c.dirty)
		if e := wantCheck(t, c.name, r); e != c.want {
			t.Errorf("P5.2: %s: %d, want %d", c.name, e, c.want)
		}
	}
}

func TestLengthsOfLists(t *testing.T) {
	for n := range 40 {
		var live []api.Live
		var dirty []api.Dirty
		for i := range n {
			live = append(live, api.Live{Tx: i + 1, Last: i + 1})
			dirty = append(dirty, api.Dirty{Page: i, Since: i + 1})
		}
		if e := wantCheck(t, "as many live", point(100, live, nil)); (e == api.OK) != (n <= 32) {
			t.Errorf("P5.2: %d live: %d", n, e)
		}
		if e := wantCheck(t, "as many dirty", point(100, nil, dirty)); (e == api.OK) != (n <= 16) {
			t.Errorf("P5.2: %d dirty: %d", n, e)
		}
	}
}

// TestACheckpointSpeaksOfWhatIsAheadOfIt: each Last and each Since, the first of a list and the last.
func TestACheckpointSpeaksOfWhatIsAheadOfIt(t *testing.T) {
	for _, lsn := range []int{0, 9, 10, 11, api.MaxLSN} {
		for at := range 4 {
			r := point(9, []api.Live{{Tx: 2, Last: 1}, {Tx: 3, Last: 2}}, []api.Dirty{{Page: 4, Since: 1}, {Page: 5, Since: 2}})
			r.LSN = lsn
			*[]*int{&r.Points.Live[0].Last, &r.Points.Live[1].Last, &r.Points.Dirty[0].Since, &r.Points.Dirty[1].Since}[at] = 10
			e := wantCheck(t, "ahead", r)
			if (e == api.OK) != (lsn == 0 || lsn > 10) {
				t.Errorf("P5.2: record 10 is spoken of by record %d: %d", lsn, e)
			}
		}
	}
}

// TestChangedRecords: right ones, of which a few numbers are others.
func TestChangedRecords(t *testing.T) {
	d := drawn()
	some := []int{math.MinInt, -1, 0, 1, 2, 3, 30, 31, 63, 64, 83, 84, 1 << 20, 1<<20 + 1, api.MaxLSN, api.MaxLSN + 1, math.MaxInt}
	told := map[api.Errno]int{}
	for range 40000 {
		r := drawnRecord(d, every[d.IntN(len(every))])
		for range 1 + d.IntN(2) {
			list := numbers()
			*list[d.IntN(len(list))].of(&r) = some[d.IntN(len(some))]
		}
		if d.IntN(8) == 0 {
			r.Kind = api.Kind(d.IntN(12) - 1)
		}
		if n := len(r.Points.Live); n > 0 && d.IntN(2) == 0 {
			r.Points.Live[d.IntN(n)] = api.Live{Tx: some[d.IntN(len(some))], Last: some[d.IntN(len(some))], Committed: d.IntN(2) == 0, Undoing: d.IntN(2) == 0}
		}
		if n := len(r.Points.Dirty); n > 0 && d.IntN(2) == 0 {
			r.Points.Dirty[d.IntN(n)] = api.Dirty{Page: some[d.IntN(len(some))], Since: some[d.IntN(len(some))]}
		}
		told[wantCheck(t, "changed", r)]++
	}
	if told[api.OK] < 1000 || told[api.ErrField] < 1000 || told[api.ErrKind] < 100 {
		t.Errorf("too few of some answer are drawn: %v", told)
	}
}
