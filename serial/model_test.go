package serial_test

import (
	"math"
	"math/big"
	"math/rand/v2"
	"slices"
	"testing"

	"quota/api"
	"quota/serial"
)

func whole(n int64) *big.Int { return big.NewInt(n) }

// modelNet: what the records come to for a transaction and a counter, looked at from their end backwards; whether it is held.
func modelNet(records []api.Record, tx, id int) (net *big.Int, held bool) {
	net = whole(0)
	for _, r := range slices.Backward(records) {
		switch {
		case r.Tx == tx && r.Kind == api.Commit, r.Tx == tx && r.Kind == api.Undo && r.Counter.ID == id:
			return net, held
		case r.Tx == tx && r.Kind == api.Add && r.Counter.ID == id:
			net, held = net.Add(net, whole(r.Delta)), true
		}
	}
	return net, held
}

func modelFault(records []api.Record, r api.Record) api.Errno {
	if r.Kind != api.Add && r.Kind != api.Undo && r.Kind != api.Commit {
		return api.OK
	}
	if r.Tx < 1 || r.Tx > 1<<31-1 {
		return api.ErrTx
	}
	if r.Kind == api.Commit {
		return api.OK
	}
	if r.Counter.ID < 1 || r.Counter.ID > 1<<20 {
		return api.ErrPlace
	}
	if net, _ := modelNet(append(slices.Clone(records), r), r.Tx, r.Counter.ID); r.Kind == api.Add && !net.IsInt64() {
		return api.ErrOverflow
	}
	return api.OK
}

// modelOf: P21.2's words; each net is reckoned anew from all records ahead of its Commit.
func modelOf(records []api.Record) ([]serial.Run, api.Errno) {
	var ids []int
	for _, r := range records {
		ids = append(ids, r.Counter.ID)
	}
	slices.Sort(ids)
	ids = slices.Compact(ids)
	var runs []serial.Run
	for k, r := range records {
		if fault := modelFault(records[:k], r); fault != api.OK {
			return nil, fault
		}
		if r.Kind != api.Commit {
			continue
		}
		next := serial.Run{Tx: r.Tx}
		for _, id := range ids {
			if net, held := modelNet(records[:k], r.Tx, id); held {
				next.Nets = append(next.Nets, api.Holding{Tx: r.Tx, Counter: id, Delta: net.Int64()})
			}
		}
		runs = append(runs, next)
	}
	return runs, api.OK
}

func modelStart(list []api.Counter) api.Errno {
	for k, c := range list {
		twice := slices.ContainsFunc(list[:k], func(a api.Counter) bool { return a.ID == c.ID })
		switch {
		case c.ID < 1 || c.ID > 1<<20 || c.Group < 1 || c.Group > 1<<20:
			return api.ErrPlace
		case twice:
			return api.ErrTwice
		case c.Bounds.Lo > c.Bounds.Hi:
			return api.ErrRange
		case c.Value < c.Bounds.Lo || c.Value > c.Bounds.Hi:
			return api.ErrBounds
		}
	}
	return api.OK
}

// modelValue: of a counter behind these runs.
func modelValue(c api.Counter, runs []serial.Run) *big.Int {
	v := whole(c.Value)
	for _, r := range runs {
		for _, n := range r.Nets {
			if n.Counter == c.ID {
				v.Add(v, whole(n.Delta))
			}
		}
	}
	return v
}

func known(start []api.Counter, r serial.Run) bool {
	return !slices.ContainsFunc(r.Nets, func(n api.Holding) bool {
		return !slices.ContainsFunc(start, func(c api.Counter) bool { return c.ID == n.Counter })
	})
}

// modelEnd: the counters behind all runs, by number; their values fit.
func modelEnd(start []api.Counter, runs []serial.Run) []api.Counter {
	end := slices.Clone(start)
	for k, c := range end {
		end[k].Value = modelValue(c, runs).Int64()
	}
	slices.SortFunc(end, func(a, b api.Counter) int { return a.ID - b.ID })
	return end
}

func modelPlay(start []api.Counter, runs []serial.Run) ([]api.Counter, int, api.Errno) {
	if fault := modelStart(start); fault != api.OK {
		return nil, 0, fault
	}
	for k, r := range runs {
		if !known(start, r) {
			return nil, k, api.ErrCounter
		}
		for _, c := range start {
			v := modelValue(c, runs[:k+1])
			if v.Cmp(whole(c.Bounds.Lo)) < 0 || v.Cmp(whole(c.Bounds.Hi)) > 0 {
				return nil, k, api.ErrBounds
			}
		}
	}
	return modelEnd(start, runs), 0, api.OK
}

func modelValues(start []api.Counter, runs []serial.Run) ([]api.Counter, api.Errno) {
	if fault := modelStart(start); fault != api.OK {
		return nil, fault
	}
	for _, r := range runs {
		if !known(start, r) {
			return nil, api.ErrCounter
		}
	}
	for _, c := range start {
		if !modelValue(c, runs).IsInt64() {
			return nil, api.ErrOverflow
		}
	}
	return modelEnd(start, runs), api.OK
}

// scale: from what numbers deltas and values are drawn: small ones, those at the ends of all, any.
type scale int

const scales = 3

func (s scale) number(d *rand.Rand) int64 {
	switch s {
	case 0:
		return d.Int64N(13) - 6
	case 1:
		ends := []int64{most, least, most - 1, least + 1, most / 2, least / 2, 0, 1, -1, 7}
		return ends[d.IntN(len(ends))]
	}
	return int64(d.Uint64())
}

// rarely: another number, of those that are none, once in n times.
func rarely(d *rand.Rand, n, number, most int) int {
	if d.IntN(n) > 0 {
		return number
	}
	none := []int{0, -1, most + 1, math.MaxInt, math.MinInt, most}
	return none[d.IntN(len(none))]
}

// drawnRecords: adds above all, of few transactions and counters, so that they meet.
func drawnRecords(d *rand.Rand, s scale, rare int) []api.Record {
	records := make([]api.Record, d.IntN(24))
	for k := range records {
		kind := []api.Kind{api.Add, api.Add, api.Add, api.Add, api.Undo, api.Commit, api.Abort, api.End, api.Create, api.Begin}[d.IntN(10)]
		records[k] = api.Record{
			LSN: d.IntN(9), Kind: kind, Prev: d.IntN(9), Delta: s.number(d),
			Tx:      rarely(d, rare, 1+d.IntN(3), api.MaxTx),
			Counter: s.counter(d, rare),
		}
	}
	return records
}

// counter: mostly one that may start.
func (s scale) counter(d *rand.Rand, rare int) api.Counter {
	c := counter(rarely(d, rare, 1+d.IntN(5), api.MaxCounter), rarely(d, rare, 1+d.IntN(2), api.MaxGroup), s.number(d), s.number(d), s.number(d))
	if d.IntN(rare) > 0 && c.Bounds.Lo > c.Bounds.Hi {
		c.Bounds.Lo, c.Bounds.Hi = c.Bounds.Hi, c.Bounds.Lo
	}
	if d.IntN(rare) > 0 {
		c.Value = min(max(c.Value, c.Bounds.Lo), c.Bounds.Hi)
	}
	return c
}

// drawnStart: counters of different numbers, mostly.
func drawnStart(d *rand.Rand, s scale, rare int) []api.Counter {
	var list []api.Counter
	for _, id := range d.Perm(d.IntN(6)) {
		c := s.counter(d, rare)
		if d.IntN(rare) > 0 {
			c.ID = id + 1
		}
		list = append(list, c)
	}
	return list
}

func drawnRuns(d *rand.Rand, s scale, start []api.Counter, rare int) []serial.Run {
	runs := make([]serial.Run, d.IntN(6))
	for k := range runs {
		runs[k].Tx = int(s.number(d))
		for range d.IntN(5) {
			id := 1 + d.IntN(5)
			if len(start) > 0 && d.IntN(rare) > 0 {
				id = start[d.IntN(len(start))].ID
			}
			runs[k].Nets = append(runs[k].Nets, api.Holding{Tx: int(s.number(d)), Counter: id, Delta: s.number(d)})
		}
	}
	return runs
}

// TestOfIsItsModel: the model's answer, of drawn records.
func TestOfIsItsModel(t *testing.T) {
	d := drawn(1)
	met := map[api.Errno]int{}
	for round := range 60_000 {
		records := drawnRecords(d, scale(round%scales), 4+round%200)
		want, fault := modelOf(records)
		met[fault]++
		if got, e := serial.Of(records); !equal(got, want) || e != fault {
			t.Fatalf("P21.2: round %d: Of(%v) = %v, %d, want %v, %d", round, records, got, e, want, fault)
		}
	}
	for _, fault := range []api.Errno{api.OK, api.ErrTx, api.ErrPlace, api.ErrOverflow} {
		if met[fault] < 1000 {
			t.Errorf("a poor draw: only %d answers are %d", met[fault], fault)
		}
	}
}

// TestStartIsItsModel: likewise.
func TestStartIsItsModel(t *testing.T) {
	d := drawn(2)
	met := map[api.Errno]int{}
	for round := range 60_000 {
		var records []api.Record
		list := drawnStart(d, scale(round%scales), 3+round%50)
		for _, c := range list {
			other := drawnRecords(d, 0, 5)
			other = slices.DeleteFunc(other, func(r api.Record) bool { return r.Kind == api.Create })
			records = append(append(records, other...), create(c))
		}
		fault := modelStart(list)
		met[fault]++
		want := modelEnd(list, nil)
		if fault != api.OK {
			want = nil
		}
		if got, e := serial.Start(records); !slices.Equal(got, want) || e != fault {
			t.Fatalf("P21.3: round %d: Start of %v = %v, %d, want %v, %d", round, list, got, e, want, fault)
		}
	}
	for _, fault := range []api.Errno{api.OK, api.ErrPlace, api.ErrTwice, api.ErrRange, api.ErrBounds} {
		if met[fault] < 1000 {
			t.Errorf("a poor draw: only %d answers are %d", met[fault], fault)
		}
	}
}

// TestPlayAndValuesAreTheirModels: likewise; and P21.7, where Play goes.
func TestPlayAndValuesAreTheirModels(t *testing.T) {
	d := drawn(3)
	played, valued := map[api.Errno]int{}, map[api.Errno]int{}
	for round := range 60_000 {
		s, rare := scale(round%scales), 5+round%100
		start := drawnStart(d, s, rare)
		runs := drawnRuns(d, s, start, rare)
		want, place, fault := modelPlay(start, runs)
		got, at, e := serial.Play(start, runs)
		if !slices.Equal(got, want) || at != place || e != fault {
			t.Fatalf("P21.4: round %d: Play(%v, %v) = %v, %d, %d, want %v, %d, %d", round, start, runs, got, at, e, want, place, fault)
		}
		played[e]++
		values, e := serial.Values(start, runs)
		want, fault = modelValues(start, runs)
		if !slices.Equal(values, want) || e != fault {
			t.Fatalf("P21.5: round %d: Values(%v, %v) = %v, %d, want %v, %d", round, start, runs, values, e, want, fault)
		}
		valued[e]++
		if got != nil && !slices.Equal(got, values) {
			t.Fatalf("P21.7: round %d: Play(%v, %v) = %v, Values %v", round, start, runs, got, values)
		}
	}
	for _, fault := range []api.Errno{api.OK, api.ErrCounter, api.ErrBounds, api.ErrPlace, api.ErrTwice, api.ErrRange} {
		if played[fault] < 300 || valued[fault] < 300 {
			t.Errorf("a poor draw: only %d of Play and %d of Values are %d", played[fault], valued[fault], fault)
		}
	}
	if valued[api.ErrOverflow] < 1000 {
		t.Errorf("a poor draw: only %d of Values are ErrOverflow", valued[api.ErrOverflow])
	}
}
