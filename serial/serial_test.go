package serial_test

import (
	"math"
	"math/rand/v2"
	"reflect"
	"slices"
	"testing"

	"quota/api"
	"quota/serial"
)

const (
	most  = math.MaxInt64
	least = math.MinInt64
)

func drawn(run int) *rand.Rand { return rand.New(rand.NewPCG(21, uint64(run))) }

func add(tx, id int, delta int64) api.Record {
	return api.Record{Kind: api.Add, Tx: tx, Delta: delta, Counter: api.Counter{ID: id}}
}

func undo(tx, id int, delta int64) api.Record {
	return api.Record{Kind: api.Undo, Tx: tx, Delta: delta, Counter: api.Counter{ID: id}}
}

func commit(tx int) api.Record { return api.Record{Kind: api.Commit, Tx: tx} }

func create(c api.Counter) api.Record { return api.Record{Kind: api.Create, Counter: c} }

func counter(id, group int, lo, hi, value int64) api.Counter {
	return api.Counter{ID: id, Group: group, Bounds: api.Range{Lo: lo, Hi: hi}, Value: value}
}

// run: a run of a counter and what is added to it, one behind the other.
func run(tx int, parts ...int64) serial.Run {
	r := serial.Run{Tx: tx}
	for k := 0; k < len(parts); k += 2 {
		r.Nets = append(r.Nets, api.Holding{Tx: tx, Counter: int(parts[k]), Delta: parts[k+1]})
	}
	return r
}

func equal(a, b []serial.Run) bool {
	return slices.EqualFunc(a, b, func(x, y serial.Run) bool { return x.Tx == y.Tx && slices.Equal(x.Nets, y.Nets) })
}

func wantOf(t *testing.T, records []api.Record, want ...serial.Run) {
	t.Helper()
	if got, fault := serial.Of(records); !equal(got, want) || fault != api.OK {
		t.Errorf("P21.2: Of(%v) = %v, %d, want %v", records, got, fault, want)
	}
}

func wantNoRuns(t *testing.T, want api.Errno, records ...api.Record) {
	t.Helper()
	if got, fault := serial.Of(records); len(got) != 0 || fault != want {
		t.Errorf("P21.2: Of(%v) = %v, %d, want %d alone", records, got, fault, want)
	}
}

func wantStart(t *testing.T, records []api.Record, want ...api.Counter) {
	t.Helper()
	if got, fault := serial.Start(records); !slices.Equal(got, want) || fault != api.OK {
		t.Errorf("P21.3: Start(%v) = %v, %d, want %v", records, got, fault, want)
	}
}

// wantNoStart: none of the calls goes from these counters, whatever the runs.
func wantNoStart(t *testing.T, want api.Errno, list ...api.Counter) {
	t.Helper()
	var records []api.Record
	for _, c := range list {
		records = append(records, commit(0), create(c), add(1, 1, 1))
	}
	if got, fault := serial.Start(records); len(got) != 0 || fault != want {
		t.Errorf("P21.3: Start of %v = %v, %d, want %d alone", list, got, fault, want)
	}
	for _, runs := range [][]serial.Run{nil, {run(1)}, {run(1), run(1, 99, 1)}, {run(1, 1, most, 1, most)}} {
		if got, at, fault := serial.Play(list, runs); len(got) != 0 || at != 0 || fault != want {
			t.Errorf("P21.4: Play(%v, %v) = %v, %d, %d, want %d alone", list, runs, got, at, fault, want)
		}
		if got, fault := serial.Values(list, runs); len(got) != 0 || fault != want {
			t.Errorf("P21.5: Values(%v, %v) = %v, %d, want %d alone", list, runs, got, fault, want)
		}
	}
}

func wantPlay(t *testing.T, start []api.Counter, runs []serial.Run, want ...api.Counter) {
	t.Helper()
	if got, at, fault := serial.Play(start, runs); !slices.Equal(got, want) || at != 0 || fault != api.OK {
		t.Errorf("P21.4: Play(%v, %v) = %v, %d, %d, want %v", start, runs, got, at, fault, want)
	}
}

func wantNoPlay(t *testing.T, start []api.Counter, runs []serial.Run, at int, want api.Errno) {
	t.Helper()
	if got, k, fault := serial.Play(start, runs); len(got) != 0 || k != at || fault != want {
		t.Errorf("P21.4: Play(%v, %v) = %v, %d, %d, want %d at %d alone", start, runs, got, k, fault, want, at)
	}
}

func wantValues(t *testing.T, start []api.Counter, runs []serial.Run, want ...api.Counter) {
	t.Helper()
	if got, fault := serial.Values(start, runs); !slices.Equal(got, want) || fault != api.OK {
		t.Errorf("P21.5: Values(%v, %v) = %v, %d, want %v", start, runs, got, fault, want)
	}
}

func wantNoValues(t *testing.T, start []api.Counter, runs []serial.Run, want api.Errno) {
	t.Helper()
	if got, fault := serial.Values(start, runs); len(got) != 0 || fault != want {
		t.Errorf("P21.5: Values(%v, %v) = %v, %d, want %d alone", start, runs, got, fault, want)
	}
}

func TestExamplesOfOf(t *testing.T) {
	wantOf(t, nil)
	wantOf(t, []api.Record{add(1, 7, 5), add(2, 7, 9), commit(2), add(1, 3, -1), commit(1)}, run(2, 7, 9), run(1, 3, -1, 7, 5))
	wantOf(t, []api.Record{add(1, 7, 5), undo(1, 7, 5), commit(1)}, run(1))
	wantOf(t, []api.Record{commit(1), commit(1)}, run(1), run(1))
	wantNoRuns(t, api.ErrTx, add(0, 7, 5))
	wantNoRuns(t, api.ErrPlace, add(1, 0, 5))
	wantNoRuns(t, api.ErrTx, commit(1<<31))
	wantNoRuns(t, api.ErrOverflow, add(1, 7, most), add(1, 7, 1))
}

func TestExamplesOfStart(t *testing.T) {
	wantStart(t, nil)
	wantStart(t, []api.Record{create(counter(2, 1, 0, 9, 4)), add(1, 2, 1), create(counter(1, 1, 0, 3, 0))}, counter(1, 1, 0, 3, 0), counter(2, 1, 0, 9, 4))
	wantNoStart(t, api.ErrTwice, counter(1, 1, 0, 9, 4), counter(1, 1, 0, 9, 4))
	wantNoStart(t, api.ErrPlace, counter(0, 1, 0, 9, 4))
	wantNoStart(t, api.ErrRange, counter(1, 1, 3, 2, 0))
	wantNoStart(t, api.ErrBounds, counter(1, 1, 0, 2, 3))
}

// two: the counters of the chapter's table, with these values.
func two(first, second int64) []api.Counter {
	return []api.Counter{counter(1, 1, 0, 10, first), counter(2, 1, least, most, second)}
}

func TestExamplesOfPlayAndValues(t *testing.T) {
	start := two(5, 0)
	slices.Reverse(start)
	wantPlay(t, start, nil, two(5, 0)...)
	wantValues(t, start, nil, two(5, 0)...)

	runs := []serial.Run{run(1, 1, 5), run(2, 1, -10)}
	wantPlay(t, start, runs, two(0, 0)...)
	wantValues(t, start, runs, two(0, 0)...)
	slices.Reverse(runs)
	wantNoPlay(t, start, runs, 0, api.ErrBounds)
	wantValues(t, start, runs, two(0, 0)...)

	runs = []serial.Run{run(1, 1, 5, 1, 4, 1, -8)}
	wantPlay(t, start, runs, two(6, 0)...)
	wantValues(t, start, runs, two(6, 0)...)

	runs = []serial.Run{run(1, 1, 1), run(2, 9, 0)}
	wantNoPlay(t, start, runs, 1, api.ErrCounter)
	wantNoValues(t, start, runs, api.ErrCounter)

	runs = []serial.Run{run(1, 2, most), run(2, 2, most), run(3, 2, -most)}
	wantNoPlay(t, start, runs, 1, api.ErrBounds)
	wantValues(t, start, runs, two(5, most)...)
	wantNoPlay(t, start, runs[:2], 1, api.ErrBounds)
	wantNoValues(t, start, runs[:2], api.ErrOverflow)
}

// TestNumbersOfRecords: the edges of what an Add, an Undo and a Commit may name, and which fault comes first.
func TestNumbersOfRecords(t *testing.T) {
	for _, tx := range []int{math.MinInt, -1, 0, api.MaxTx + 1, math.MaxInt} {
		wantNoRuns(t, api.ErrTx, add(tx, 1, 1))
		wantNoRuns(t, api.ErrTx, undo(tx, 1, 1))
		wantNoRuns(t, api.ErrTx, commit(tx))
		wantNoRuns(t, api.ErrTx, add(tx, 0, 1))
		wantNoRuns(t, api.ErrTx, undo(tx, 0, 1))
	}
	for _, id := range []int{math.MinInt, -1, 0, api.MaxCounter + 1, math.MaxInt} {
		wantNoRuns(t, api.ErrPlace, add(1, id, 1))
		wantNoRuns(t, api.ErrPlace, undo(1, id, 1))
		wantNoRuns(t, api.ErrPlace, add(1, 7, most), add(api.MaxTx, id, 1), add(1, 7, 1))
		r := commit(1)
		r.Counter.ID = id
		wantOf(t, []api.Record{r}, run(1))
	}
	wantOf(t, []api.Record{add(api.MaxTx, api.MaxCounter, least), add(1, 1, most), commit(api.MaxTx), commit(1)}, run(api.MaxTx, api.MaxCounter, least), run(1, 1, most))
	wantOf(t, []api.Record{undo(api.MaxTx, api.MaxCounter, least), commit(api.MaxTx)}, run(api.MaxTx))
}

// TestTheFirstFaultIsTold: of the records', in their order, with no run of those ahead of it.
func TestTheFirstFaultIsTold(t *testing.T) {
	faults := []struct {
		r    api.Record
		want api.Errno
	}{{add(0, 7, 5), api.ErrTx}, {undo(1, 0, 5), api.ErrPlace}, {add(9, 7, 1), api.ErrOverflow}, {commit(-1), api.ErrTx}}
	for _, a := range faults {
		for _, b := range faults {
			wantNoRuns(t, a.want, commit(1), add(9, 7, most), commit(2), a.r, commit(3), b.r)
		}
	}
}

// TestOtherRecordsArePassedOver: whatever stands in them; an Abort and an End take nothing from what is held.
func TestOtherRecordsArePassedOver(t *testing.T) {
	kinds := []api.Kind{math.MinInt, -1, 0, api.Begin, api.Create, api.Abort, api.End, api.Checkpoint, api.Checkpoint + 1, math.MaxInt}
	for _, kind := range kinds {
		for _, tx := range []int{-1, 0, 1, api.MaxTx + 1} {
			other := api.Record{LSN: -5, Kind: kind, Tx: tx, Prev: -5, Delta: most, Counter: api.Counter{ID: 7}}
			wantOf(t, []api.Record{other, add(1, 7, 5), other, add(1, 7, 1), other, commit(1), other}, run(1, 7, 6))
		}
	}
	for _, kind := range append(kinds, api.Add, api.Undo, api.Commit) {
		if kind != api.Create {
			wantStart(t, []api.Record{{Kind: kind, Tx: -1, Counter: counter(1, 1, 2, 1, 0)}, create(counter(3, 1, 0, 1, 0)), {Kind: kind, Counter: counter(3, 1, 0, 1, 0)}}, counter(3, 1, 0, 1, 0))
		}
	}
}

// TestWhatIsHeld: a net of 0 is held; an Undo takes the whole net, whatever its Delta, of its own transaction and counter; behind a Commit all begins anew.
func TestWhatIsHeld(t *testing.T) {
	wantOf(t, []api.Record{add(1, 7, 0), commit(1)}, run(1, 7, 0))
	wantOf(t, []api.Record{add(1, 7, 5), add(1, 7, -5), commit(1)}, run(1, 7, 0))
	wantOf(t, []api.Record{undo(1, 7, 0), commit(1)}, run(1))
	wantOf(t, []api.Record{add(1, 7, 5), undo(1, 7, 99), commit(1)}, run(1))
	wantOf(t, []api.Record{add(1, 7, 5), undo(1, 7, 5), add(1, 7, 2), commit(1)}, run(1, 7, 2))
	wantOf(t, []api.Record{add(1, 7, 5), undo(1, 7, 5), undo(1, 7, 5), add(1, 7, 2), undo(1, 7, 2), add(1, 7, 1), commit(1), commit(1)}, run(1, 7, 1), run(1))
	wantOf(t, []api.Record{add(1, 7, 5), undo(1, 8, 5), undo(2, 7, 5), commit(1)}, run(1, 7, 5))
	wantOf(t, []api.Record{add(1, 7, 5), commit(1), add(1, 7, 3), add(1, 8, 1), commit(1)}, run(1, 7, 5), run(1, 7, 3, 8, 1))
	wantOf(t, []api.Record{add(1, 7, most), commit(1), add(1, 7, most), undo(1, 7, most), add(1, 7, most), commit(1)}, run(1, 7, most), run(1, 7, most))
	wantOf(t, []api.Record{add(1, 7, 5), add(1, 8, 5)})
	wantOf(t, []api.Record{add(2, 7, 1), add(12, 7, 2), add(1, 27, 4), add(1, 7, 8), commit(1), commit(12), commit(2)}, run(1, 7, 8, 27, 4), run(12, 7, 2), run(2, 7, 1))
}

// TestNetsBeyondAllNumbers: each net by itself must be a number, at every record.
func TestNetsBeyondAllNumbers(t *testing.T) {
	wantNoRuns(t, api.ErrOverflow, add(1, 7, least), add(1, 7, -1))
	wantNoRuns(t, api.ErrOverflow, add(1, 7, most), add(1, 7, 1), add(1, 7, -1))
	wantNoRuns(t, api.ErrOverflow, commit(3), add(1, 7, least), add(2, 7, 5), add(1, 7, least))
	wantOf(t, []api.Record{add(1, 7, most), add(2, 7, 1), add(1, 8, 1), add(1, 7, least), commit(1)}, run(1, 7, -1, 8, 1))
	wantOf(t, []api.Record{add(1, 7, least), add(2, 7, -1), add(1, 8, -1), add(1, 7, 0), commit(1)}, run(1, 7, least, 8, -1))
}

// TestCountersThatMayNotStart: each fault at its edge, and which one comes first.
func TestCountersThatMayNotStart(t *testing.T) {
	good := counter(5, 1, 0, 1, 0)
	for _, n := range []int{math.MinInt, -1, 0, api.MaxCounter + 1, math.MaxInt} {
		wantNoStart(t, api.ErrPlace, counter(n, 1, 0, 1, 0))
		wantNoStart(t, api.ErrPlace, good, counter(n, 1, 1, 0, 9))
	}
	for _, n := range []int{math.MinInt, -1, 0, api.MaxGroup + 1, math.MaxInt} {
		wantNoStart(t, api.ErrPlace, counter(1, n, 0, 1, 0))
		wantNoStart(t, api.ErrPlace, good, counter(5, n, 1, 0, 9))
	}
	wantNoStart(t, api.ErrTwice, good, counter(1, 1, 0, 1, 0), counter(5, 2, 1, 0, 9))
	wantNoStart(t, api.ErrRange, good, counter(1, 1, 1, 0, 1))
	wantNoStart(t, api.ErrRange, counter(1, 1, most, least, 0))
	wantNoStart(t, api.ErrBounds, counter(1, 1, 0, 1, 2))
	wantNoStart(t, api.ErrBounds, counter(1, 1, 0, 1, -1))
	wantNoStart(t, api.ErrBounds, counter(1, 1, least, most-1, most))
	edges := []api.Counter{counter(1, 1, least, most, least), counter(2, api.MaxGroup, 3, 3, 3), counter(api.MaxCounter, 1, 0, most, most)}
	for _, values := range [][]api.Counter{edges, {good}, nil} {
		wantPlay(t, values, nil, values...)
		wantValues(t, values, nil, values...)
	}
}

// TestTheFirstCounterAtFaultIsTold: whatever is wrong with those behind it.
func TestTheFirstCounterAtFaultIsTold(t *testing.T) {
	good := counter(5, 1, 0, 1, 0)
	faults := []struct {
		c    api.Counter
		want api.Errno
	}{{counter(0, 1, 0, 1, 0), api.ErrPlace}, {counter(5, 1, 0, 1, 0), api.ErrTwice}, {counter(6, 1, 1, 0, 0), api.ErrRange}, {counter(7, 1, 0, 1, 2), api.ErrBounds}}
	for _, a := range faults {
		for _, b := range faults {
			wantNoStart(t, a.want, good, a.c, b.c)
			wantNoStart(t, a.want, good, counter(8, 1, most, most, most), counter(9, 1, most, most, most), a.c, b.c)
		}
	}
}

// TestGroupsAreNotSummed: nobody asks for their sums here, so these may be beyond 64 bits.
func TestGroupsAreNotSummed(t *testing.T) {
	list := []api.Counter{counter(1, 1, 0, most, most), counter(2, 1, 0, most, most), counter(3, 2, least, 0, least), counter(4, 2, least, 0, -1)}
	wantStart(t, []api.Record{create(list[3]), create(list[1]), create(list[0]), create(list[2])}, list...)
	wantPlay(t, list, []serial.Run{run(1, 4, least+1)}, list[0], list[1], list[2], counter(4, 2, least, 0, least))
	wantValues(t, list, []serial.Run{run(1, 4, least+1)}, list[0], list[1], list[2], counter(4, 2, least, 0, least))
}

// TestRunsMayBeAny: what their Tx are is not asked, nor in which order their holdings stand.
func TestRunsMayBeAny(t *testing.T) {
	runs := []serial.Run{
		{Tx: -1, Nets: []api.Holding{{Tx: 5, Counter: 2, Delta: 4}, {Tx: math.MinInt, Counter: 1, Delta: 1}, {Tx: 0, Counter: 2, Delta: -1}}},
		{Tx: -1, Nets: []api.Holding{{Tx: -1, Counter: 1, Delta: 2}}},
		{},
	}
	wantPlay(t, two(5, 0), runs, two(8, 3)...)
	wantValues(t, two(5, 0), runs, two(8, 3)...)
}

// TestCountersThatAreNotThere: in the run that Play has come to; in any for Values. A delta of 0 too asks for its counter.
func TestCountersThatAreNotThere(t *testing.T) {
	for _, id := range []int64{math.MinInt, -1, 0, 3, api.MaxCounter + 1, math.MaxInt} {
		for _, runs := range [][]serial.Run{{run(1, id, 0)}, {run(1, 1, 99, id, 0)}, {run(1, id, 0, 1, 99)}, {run(1, 2, most, 2, most, id, 0)}} {
			wantNoPlay(t, two(5, 0), runs, 0, api.ErrCounter)
			wantNoValues(t, two(5, 0), runs, api.ErrCounter)
		}
		runs := []serial.Run{run(1), run(1, 1, 5), run(1, 1, 1), run(1, id, 0)}
		wantNoPlay(t, two(5, 0), runs, 2, api.ErrBounds)
		wantNoValues(t, two(5, 0), runs, api.ErrCounter)
		runs = []serial.Run{run(1, 2, most), run(1, 2, most), run(1, id, 0)}
		wantNoPlay(t, two(5, 0), runs, 1, api.ErrBounds)
		wantNoValues(t, two(5, 0), runs, api.ErrCounter)
		wantNoPlay(t, nil, []serial.Run{run(1), run(2, id, 1)}, 1, api.ErrCounter)
		wantNoValues(t, nil, []serial.Run{run(1), run(2, id, 1)}, api.ErrCounter)
	}
}

// TestBoundsAreMetBehindEachRun: at both their edges, and where a sum is beyond 64 bits.
func TestBoundsAreMetBehindEachRun(t *testing.T) {
	wantPlay(t, two(5, 0), []serial.Run{run(1, 1, 5), run(1, 1, -10), run(1, 1, 10)}, two(10, 0)...)
	wantNoPlay(t, two(5, 0), []serial.Run{run(1, 1, 6)}, 0, api.ErrBounds)
	wantNoPlay(t, two(5, 0), []serial.Run{run(1, 1, -6)}, 0, api.ErrBounds)
	wantNoPlay(t, two(5, 0), []serial.Run{run(1, 1, 5), run(1, 2, 1), run(1, 2, 5, 1, 1), run(1, 1, -1)}, 2, api.ErrBounds)
	wantPlay(t, two(5, 0), []serial.Run{run(1, 2, most, 2, most, 2, least), run(2, 2, 1)}, two(5, most)...)
	wantPlay(t, two(5, 0), []serial.Run{run(1, 2, least), run(2, 2, least, 2, most, 2, 1)}, two(5, least)...)
	wantNoPlay(t, two(5, 0), []serial.Run{run(1, 2, least), run(2, 2, -1)}, 1, api.ErrBounds)
	wantNoPlay(t, two(5, 0), []serial.Run{run(1, 2, most, 2, 1)}, 0, api.ErrBounds)
	wantNoPlay(t, two(5, 0), []serial.Run{run(1, 1, most, 1, most, 1, 2)}, 0, api.ErrBounds) // all of it is 2^64 + 5, of which a sum that wraps would make 5
	wantNoPlay(t, two(5, 0), []serial.Run{run(1, 1, least, 1, least)}, 0, api.ErrBounds)
}

// TestValuesOutOfBounds: Values asks for 64 bits alone.
func TestValuesOutOfBounds(t *testing.T) {
	wantValues(t, two(5, 0), []serial.Run{run(1, 1, 6, 2, 1)}, two(11, 1)...)
	wantValues(t, two(5, 0), []serial.Run{run(1, 1, most), run(1, 1, -5)}, two(most, 0)...)
	wantValues(t, two(5, 0), []serial.Run{run(1, 1, least), run(2, 2, least)}, two(least+5, least)...)
	wantNoValues(t, two(5, 0), []serial.Run{run(1, 1, most-4)}, api.ErrOverflow)
	wantValues(t, two(5, 0), []serial.Run{run(1, 1, most-5)}, two(most, 0)...)
	wantNoValues(t, two(5, 0), []serial.Run{run(1, 2, least), run(2, 2, -1)}, api.ErrOverflow)
	wantNoValues(t, two(5, 0), []serial.Run{run(1, 1, most), run(2, 1, most), run(3, 1, 2)}, api.ErrOverflow)
}

// TestErrorsHaveTheirNumbers: of the section 'Errors'.
func TestErrorsHaveTheirNumbers(t *testing.T) {
	got := []api.Errno{api.ErrPlace, api.ErrOverflow, api.ErrRange, api.ErrBounds, api.ErrCounter, api.ErrTwice, api.ErrTx}
	if want := []api.Errno{4, 10, 11, 110, 120, 121, 130}; !reflect.DeepEqual(got, want) {
		t.Errorf("errors are %d, want %d", got, want)
	}
}
