package undo_test

import (
	"reflect"
	"slices"
	"testing"

	"quota/api"
	"quota/undo"
)

// within: the records amid a longer list, each with lists of its own.
func within(records []api.Record) (whole, part []api.Record) {
	whole = slices.Concat(list(add(1, 90, 91)), records, list(add(1, 92, 93), undone(1, 94, 95)))
	for k := range whole {
		whole[k].Points = api.Points{Live: []api.Live{{Tx: k + 1, Last: 1}}, Dirty: []api.Dirty{{Page: k, Since: 1}}, Next: 5}
	}
	return whole, whole[1 : 1+len(records)]
}

// deep: a copy that shares nothing.
func deep(records []api.Record) []api.Record {
	out := slices.Clone(records)
	for k := range out {
		out[k].Points.Live, out[k].Points.Dirty = slices.Clone(out[k].Points.Live), slices.Clone(out[k].Points.Dirty)
	}
	return out
}

// scribble writes over all of a list's memory, spare room too.
func scribble(records []api.Record) {
	for k := range records[:cap(records)] {
		records[:cap(records)][k] = add(-7, -7, -7)
	}
}

func TestOwnMemoryOfLeft(t *testing.T) {
	rnd := drawn(2)
	for range 2000 {
		records := drawRecords(rnd, rnd.IntN(20))
		for tx := range 4 {
			want, fault := model(records, tx)
			whole, part := within(records)
			was := deep(whole)
			one, e := undo.Left(part, tx)
			two, _ := undo.Left(part, tx)
			if !reflect.DeepEqual(whole, was) {
				t.Fatalf("P19.1: Left(%v, %d) changes what is handed in", records, tx)
			}
			scribble(one)
			if !reflect.DeepEqual(whole, was) || !same(two, want) || e != fault {
				t.Fatalf("P19.1: what Left(%v, %d) hands out is not new", records, tx)
			}
			scribble(whole)
			if !same(two, want) {
				t.Fatalf("P19.1: Left(%v, %d) hands out what was handed in", records, tx)
			}
		}
	}
}

// TestNothingIsKeptOfALeft: what one has found is nothing to the next one.
func TestNothingIsKeptOfALeft(t *testing.T) {
	for range 3 {
		wantLeft(t, some(), 1, undone(1, 3, 0), undone(1, 7, 3))
		wantNone(t, list(undone(1, 7, 3)), 1, api.ErrCounter)
		wantLeft(t, some()[:1], 1, undone(1, 7, 5))
		wantLeft(t, nil, 1)
	}
}
