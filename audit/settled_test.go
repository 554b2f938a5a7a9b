package audit_test

import (
	"cmp"
	"math/big"
	"slices"
	"testing"

	"quota/api"
	"quota/audit"
)

// made, added, done: records of which only what Settled looks at is there.
func made(c api.Counter) api.Record { return api.Record{Kind: api.Create, Counter: c} }

func added(tx, id int, delta int64) api.Record {
	return api.Record{Kind: api.Add, Tx: tx, Counter: api.Counter{ID: id}, Delta: delta}
}

func done(tx int) api.Record { return api.Record{Kind: api.Commit, Tx: tx} }

// TestSettled: the chapter's examples, and the edges.
func TestSettled(t *testing.T) {
	seven, three := counter(7, 2, -5, 10, 5), counter(3, 1, 0, 0, 0)
	with := func(c api.Counter, v int64) api.Counter {
		c.Value = v
		return c
	}
	for _, c := range []struct {
		why     string
		records []api.Record
		want    []api.Counter
		fault   api.Errno
	}{
		{"no records", nil, nil, api.OK},
		{"the chapter's example", []api.Record{made(seven), added(1, 7, 4), added(2, 7, -3), done(1)}, []api.Counter{with(seven, 9)}, api.OK},
		{"an add of none", []api.Record{added(1, 7, 4)}, nil, api.ErrCounter},
		{"an add ahead of the create", []api.Record{added(1, 7, 4), made(seven)}, nil, api.ErrCounter},
		{"an add of none by one that isn't committed", []api.Record{made(seven), added(1, 8, 0), done(2)}, nil, api.ErrCounter},
		{"twice", []api.Record{made(seven), made(seven)}, nil, api.ErrTwice},
		{"twice, another value and group", []api.Record{made(seven), made(three), made(counter(7, 9, 0, 9, 9))}, nil, api.ErrTwice},
		{"twice, then an add of none", []api.Record{made(seven), made(seven), added(1, 8, 1)}, nil, api.ErrTwice},
		{"an add of none, then twice", []api.Record{made(seven), added(1, 8, 1), made(seven)}, nil, api.ErrCounter},
		{"by ID", []api.Record{made(seven), made(three)}, []api.Counter{three, seven}, api.OK},
		{"a commit ahead of the add", []api.Record{done(1), made(seven), added(1, 7, 2)}, []api.Counter{with(seven, 7)}, api.OK},
		{"many adds, two commits", []api.Record{made(seven), made(three), added(1, 7, 2), added(1, 3, 1), added(1, 7, 2), done(1), added(1, 7, -20), done(1)}, []api.Counter{with(three, 1), with(seven, -11)}, api.OK},
		{"nobody is committed", []api.Record{made(seven), added(1, 7, 2), added(2, 7, 2)}, []api.Counter{seven}, api.OK},
		{"beyond the bounds", []api.Record{made(seven), added(1, 7, 200), done(1)}, []api.Counter{with(seven, 205)}, api.OK},
		{"beyond 64 bits on the way", []api.Record{made(with(seven, most)), added(1, 7, most), added(2, 7, -most), added(2, 7, least), done(2), done(1)}, []api.Counter{with(seven, -1)}, api.OK},
		{"beyond 64 bits by one that isn't committed", []api.Record{made(with(seven, most)), added(1, 7, 1), done(2)}, []api.Counter{with(seven, most)}, api.OK},
		{"beyond 64 bits", []api.Record{made(with(seven, most)), made(three), added(1, 7, 1), done(1)}, nil, api.ErrOverflow},
		{"below 64 bits", []api.Record{made(three), made(with(seven, least)), added(1, 7, -1), done(1)}, nil, api.ErrOverflow},
		{"beyond 64 bits, then twice", []api.Record{made(with(seven, most)), added(1, 7, 1), done(1), made(seven)}, nil, api.ErrTwice},
		{"beyond 64 bits, then an add of none", []api.Record{made(with(seven, most)), added(1, 7, 1), done(1), added(2, 3, 1)}, nil, api.ErrCounter},
		{"numbers of all kinds", []api.Record{made(counter(-7, -1, 9, 0, 99)), made(counter(0, 0, 0, 0, 0)), made(counter(most, 0, 0, 0, 1)), made(counter(least, 0, 0, 0, 2)), added(-3, 0, 8), done(-3), added(0, most, 8), done(0)}, []api.Counter{counter(least, 0, 0, 0, 2), counter(-7, -1, 9, 0, 99), counter(0, 0, 0, 0, 8), counter(most, 0, 0, 0, 9)}, api.OK},
		{"an add to number 0", []api.Record{added(1, 0, 8)}, nil, api.ErrCounter},
	} {
		if got, e := audit.Settled(c.records); !slices.Equal(got, c.want) || e != c.fault || e != api.OK && got != nil {
			t.Errorf("P22.3: %s: Settled = %v, %d, want %v, %d", c.why, got, e, c.want, c.fault)
		}
	}
}

// TestOtherRecordsDoNotCount: of every other kind, wherever they stand; nor do other fields.
func TestOtherRecordsDoNotCount(t *testing.T) {
	base := []api.Record{made(counter(7, 2, 0, 10, 5)), added(1, 7, 4), added(2, 7, -3), done(1)}
	want, _ := audit.Settled(base)
	for _, kind := range []api.Kind{-1, 0, api.Begin, api.Undo, api.Abort, api.End, api.Checkpoint, 9, 100} {
		for _, id := range []int{7, 8} {
			for _, tx := range []int{1, 2, 3} {
				for at := range len(base) + 1 {
					other := api.Record{LSN: at, Kind: kind, Tx: tx, Delta: 4, Counter: api.Counter{ID: id}, Points: api.Points{Live: []api.Live{{Tx: tx, Committed: true}}}}
					if got, e := audit.Settled(slices.Insert(slices.Clone(base), at, other)); !slices.Equal(got, want) || e != api.OK {
						t.Errorf("P22.3: with %v at %d Settled = %v, %d", other, at, got, e)
					}
				}
			}
		}
	}
	for k := range base {
		base[k].LSN, base[k].Prev, base[k].Where, base[k].Sums = 5-k, -k, api.Slot{Page: -1, Index: k}, api.Slot{Page: -1, Index: k}
	}
	base[0].Tx, base[0].Delta = 2, 77
	base[1].Counter = counter(7, 99, 1, -1, 88)
	base[3].Counter, base[3].Delta = counter(9, 9, 9, 9, 9), 9
	if got, e := audit.Settled(base); !slices.Equal(got, want) || e != api.OK {
		t.Errorf("P22.3: with other fields Settled = %v, %d", got, e)
	}
}

// plainSettled: the chapter's words, record by record over whole numbers without bound.
func plainSettled(records []api.Record) ([]api.Counter, api.Errno) {
	makes := func(r api.Record, id int) bool { return r.Kind == api.Create && r.Counter.ID == id }
	for k, r := range records {
		earlier := slices.ContainsFunc(records[:k], func(o api.Record) bool { return makes(o, r.Counter.ID) })
		if r.Kind == api.Create && earlier {
			return nil, api.ErrTwice
		}
		if r.Kind == api.Add && !earlier {
			return nil, api.ErrCounter
		}
	}
	var out []api.Counter
	for _, r := range records {
		if r.Kind != api.Create {
			continue
		}
		all := big.NewInt(r.Counter.Value)
		for _, a := range records {
			if a.Kind == api.Add && a.Counter.ID == r.Counter.ID && slices.ContainsFunc(records, func(o api.Record) bool { return o.Kind == api.Commit && o.Tx == a.Tx }) {
				all.Add(all, big.NewInt(a.Delta))
			}
		}
		if !all.IsInt64() {
			return nil, api.ErrOverflow
		}
		c := r.Counter
		c.Value = all.Int64()
		out = append(out, c)
	}
	slices.SortFunc(out, func(a, b api.Counter) int { return cmp.Compare(a.ID, b.ID) })
	return out, api.OK
}

// TestSettledOfDrawnRecords: held against the plain words.
func TestSettledOfDrawnRecords(t *testing.T) {
	d := drawn(1)
	met := map[api.Errno]int{}
	for round := range 60_000 {
		numbers := []int64{0, 1, -1, 5, -7, most, least, most - 1, most / 2, least / 2}[:5+5*(round%2)]
		var list []api.Record
		for range d.IntN(6) {
			if c := counter(d.IntN(9)-1, 1, 0, 9, numbers[d.IntN(len(numbers))]); d.IntN(20) == 0 || !slices.ContainsFunc(list, func(r api.Record) bool { return r.Counter.ID == c.ID }) {
				list = append(list, made(c))
			}
		}
		for range d.IntN(20) {
			r := added(d.IntN(5), d.IntN(9)-1, numbers[d.IntN(len(numbers))])
			if d.IntN(3) == 0 {
				r.Kind = []api.Kind{api.Create, api.Undo, api.Commit, api.Commit, api.Abort, api.Kind(d.IntN(11) - 1)}[d.IntN(6)]
			}
			there := slices.ContainsFunc(list, func(o api.Record) bool { return o.Kind == api.Create && o.Counter.ID == r.Counter.ID })
			if d.IntN(20) == 0 || there == (r.Kind != api.Create) {
				list = append(list, r)
			}
		}
		want, fault := plainSettled(list)
		met[fault]++
		if got, e := audit.Settled(list); !slices.Equal(got, want) || e != fault {
			t.Fatalf("P22.3: round %d: Settled(%v) = %v, %d, want %v, %d", round, list, got, e, want, fault)
		}
	}
	for _, fault := range []api.Errno{api.OK, api.ErrOverflow, api.ErrCounter, api.ErrTwice} {
		if met[fault] < 500 {
			t.Errorf("a poor draw: only %d answers are %d", met[fault], fault)
		}
	}
}
