package serial_test

import (
	"reflect"
	"slices"
	"testing"

	"quota/api"
	"quota/serial"
)

// roomy: a copy whose spare room, three places, holds these too.
func roomy[T any](list []T, spare T) []T {
	own := make([]T, 0, len(list)+3)
	own = append(own, list...)
	return append(own, spare, spare, spare)[:len(list)]
}

// scribble writes over all of a list's memory, spare room too.
func scribble[T any](list []T, with T) {
	list = list[:cap(list)]
	for i := range list {
		list[i] = with
	}
}

func roomyRuns(runs []serial.Run) []serial.Run {
	own := roomy(runs, run(77, 7, 7))
	for k := range own {
		own[k].Nets = roomy(own[k].Nets, api.Holding{Tx: 77})
	}
	return own
}

// deep: a copy of all of the runs' memory, spare room too.
func deep(runs []serial.Run) []serial.Run {
	own := slices.Clone(runs[:cap(runs)])
	for k := range own {
		own[k].Nets = slices.Clone(own[k].Nets[:cap(own[k].Nets)])
	}
	return own
}

// clone: a copy without spare room.
func clone(runs []serial.Run) []serial.Run {
	own := slices.Clip(slices.Clone(runs))
	for k := range own {
		own[k].Nets = slices.Clip(slices.Clone(own[k].Nets))
	}
	return own
}

func records() []api.Record {
	var list []api.Record
	for _, id := range []int{4, 2, 9, 1, 7} {
		list = append(list, create(counter(id, 1, -99, 99, int64(id))), add(1, id, 5), add(2, id, -2), add(3, id, 1), commit(1), add(1, id, 1))
	}
	return append(list, commit(2), undo(3, 4, 1), commit(3))
}

// TestWhatIsHandedInIsLeftAlone: spare room too, whether the call goes or not.
func TestWhatIsHandedInIsLeftAlone(t *testing.T) {
	for _, last := range []api.Record{commit(1), commit(0), create(counter(4, 1, 0, 0, 0))} {
		list := roomy(append(records(), last), add(9, 9, 9))
		before := slices.Clone(list[:cap(list)])
		serial.Of(list)
		serial.Start(list)
		if !reflect.DeepEqual(list[:cap(list)], before) {
			t.Errorf("P21.1: Of and Start have made %v of %v", list[:cap(list)], before)
		}
	}
	for _, fourth := range []api.Counter{counter(4, 1, 0, 9, 4), counter(1, 1, 0, 9, 4)} {
		start := roomy([]api.Counter{counter(3, 1, 0, 9, 4), counter(1, 1, 0, 9, 4), counter(2, 1, -9, 9, 0), fourth}, counter(6, 6, 6, 6, 6))
		for _, r := range []serial.Run{run(1, 3, 1, 2, 1), run(1, 1, 99), run(1, 8, 0), run(1, 1, most, 1, most)} {
			runs := roomyRuns([]serial.Run{run(1, 3, 1, 1, 1, 3, -1), run(2), r})
			before, beside := slices.Clone(start[:cap(start)]), deep(runs)
			serial.Play(start, runs)
			serial.Values(start, runs)
			if !slices.Equal(start[:cap(start)], before) || !reflect.DeepEqual(deep(runs), beside) {
				t.Errorf("P21.1: Play and Values have made %v, %v of %v, %v", start[:cap(start)], deep(runs), before, beside)
			}
		}
	}
}

// TestNothingIsKept: what was answered stays as it is, whatever becomes of what was handed in.
func TestNothingIsKept(t *testing.T) {
	list := records()
	runs, _ := serial.Of(list)
	start, _ := serial.Start(list)
	wantRuns, wantStart := clone(runs), slices.Clone(start)
	scribble(list, add(7, 7, 7))
	if !equal(runs, wantRuns) || !slices.Equal(start, wantStart) {
		t.Errorf("P21.1: answers have become %v, %v of %v, %v", runs, start, wantRuns, wantStart)
	}
	given := clone(runs)
	end, _, _ := serial.Play(start, given)
	values, _ := serial.Values(start, given)
	wantEnd := slices.Clone(end)
	for _, r := range given {
		scribble(r.Nets, api.Holding{Counter: -7})
	}
	scribble(given, run(7, 7, 7))
	scribble(start, counter(7, 7, 7, 7, 7))
	if !slices.Equal(end, wantEnd) || !slices.Equal(values, wantEnd) {
		t.Errorf("P21.1: answers have become %v, %v of %v", end, values, wantEnd)
	}
}

// TestListsAreNewMemory: of one answer and of two; each run's nets are written over, spare room too, and no other's change.
func TestListsAreNewMemory(t *testing.T) {
	list := records()
	runs, _ := serial.Of(list)
	others, _ := serial.Of(list)
	want := clone(others)
	if len(runs) != 7 {
		t.Fatalf("P21.2: Of answers %v", runs)
	}
	for k := range runs {
		scribble(runs[k].Nets[len(runs[k].Nets):], api.Holding{Tx: -7})
	}
	if !equal(runs, want) {
		t.Errorf("P21.1: a run's nets lie in another's spare room: %v, want %v", runs, want)
	}
	for k := range runs {
		scribble(runs[k].Nets, api.Holding{Tx: -7, Counter: k})
		for j := k + 1; j < len(runs); j++ {
			if !slices.Equal(runs[j].Nets, want[j].Nets) {
				t.Errorf("P21.1: the nets of runs %d and %d share memory: %v", k, j, runs[j].Nets)
			}
		}
	}
	scribble(runs, run(-7))
	if !equal(others, want) {
		t.Errorf("P21.1: two answers of Of share memory: %v, want %v", others, want)
	}
	for name, call := range map[string]func() []api.Counter{
		"Start":  func() []api.Counter { l, _ := serial.Start(list); return l },
		"Play":   func() []api.Counter { l, _, _ := serial.Play(two(5, 0), nil); return l },
		"Values": func() []api.Counter { l, _ := serial.Values(two(5, 0), others[:0]); return l },
	} {
		first, second := call(), call()
		want := slices.Clone(second)
		scribble(first, counter(7, 7, 7, 7, 7))
		if len(want) == 0 || !slices.Equal(second, want) || !slices.Equal(call(), want) {
			t.Errorf("P21.1: two answers of %s share memory: %v, want %v", name, second, want)
		}
	}
}

// TestLongHistories: no record and no run waits for a look at all that is held, or at all counters.
func TestLongHistories(t *testing.T) {
	const n = 50_000
	var list []api.Record
	for k := 1; k <= n; k++ {
		list = append(list, create(counter(k, k, 0, 10, 1)), add(k, k, 2), add(1, k, 1), add(2, 5, 1), undo(2, 5, 1))
	}
	for k := n; k >= 1; k-- {
		list = append(list, commit(k))
	}
	runs, fault := serial.Of(list)
	if fault != api.OK || len(runs) != n || len(runs[n-1].Nets) != n || len(runs[n-2].Nets) != 1 {
		t.Fatalf("P21.2: Of = %d runs, %d", len(runs), fault)
	}
	start, fault := serial.Start(list)
	if fault != api.OK || len(start) != n {
		t.Fatalf("P21.3: Start = %d counters, %d", len(start), fault)
	}
	end, at, fault := serial.Play(start, runs)
	if fault != api.OK || at != 0 || len(end) != n || end[n-1].Value != 4 || end[0].Value != 4 {
		t.Errorf("P21.4: Play = %d counters, %d, %d", len(end), at, fault)
	}
	values, fault := serial.Values(start, runs)
	if fault != api.OK || !slices.Equal(values, end) {
		t.Errorf("P21.5: Values = %d counters, %d", len(values), fault)
	}
}
