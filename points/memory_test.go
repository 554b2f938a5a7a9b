package points_test

import (
	"slices"
	"testing"

	"quota/api"
	"quota/points"
)

// amid: the list within a longer one, of which all is known.
func amid(list []api.Dirty) (whole, part []api.Dirty) {
	whole = slices.Concat(dirty(90, 91), list, dirty(92, 93, 94, 95))
	return whole, whole[1 : 1+len(list)]
}

// scribble writes over all of a list's memory, spare room too.
func scribble(list []api.Dirty) {
	list = list[:cap(list)]
	for i := range list {
		list[i] = api.Dirty{Page: -7, Since: -7}
	}
}

func TestMergeChangesAndKeepsNothing(t *testing.T) {
	for _, c := range []struct{ a, b, want []api.Dirty }{
		{dirty(3, 9, 1, 4, 3, 5), dirty(3, 2, 0, 8), dirty(0, 8, 1, 4, 3, 2)},
		{dirty(1, 4, 3, 9), nil, dirty(1, 4, 3, 9)},
		{nil, dirty(1, 4, 3, 9), dirty(1, 4, 3, 9)},
		{nil, nil, nil},
		{dirty(3, 9), dirty(64, 1), nil},
		{dirty(3, 0), dirty(64, 1), nil},
	} {
		a, partA := amid(c.a)
		b, partB := amid(c.b)
		wasA, wasB := slices.Clone(a), slices.Clone(b)
		got, _ := points.Merge(partA, partB)
		if !slices.Equal(a, wasA) || !slices.Equal(b, wasB) {
			t.Errorf("P16.1: Merge(%v, %v) changes what is handed in", c.a, c.b)
		}
		scribble(a)
		scribble(b)
		if !slices.Equal(got, c.want) {
			t.Errorf("P16.1: Merge(%v, %v) hands out what was handed in: %v", c.a, c.b, got)
		}
		a, b = slices.Clone(wasA), slices.Clone(wasB)
		got, _ = points.Merge(a[1:1+len(c.a)], b[1:1+len(c.b)])
		again, _ := points.Merge(a[1:1+len(c.a)], b[1:1+len(c.b)])
		scribble(got)
		if !slices.Equal(a, wasA) || !slices.Equal(b, wasB) || !slices.Equal(again, c.want) {
			t.Errorf("P16.1: what Merge(%v, %v) hands out is not new", c.a, c.b)
		}
	}
}

// TestMergeOfListsThatShareMemory: one list twice, a list and a part of it.
func TestMergeOfListsThatShareMemory(t *testing.T) {
	whole, list := amid(dirty(3, 9, 1, 4, 3, 5, 2, 8))
	was := slices.Clone(whole)
	for cut := range 5 {
		wantMerge(t, list, list[cut:], dirty(1, 4, 2, 8, 3, 5))
		wantMerge(t, list[:cut], list, dirty(1, 4, 2, 8, 3, 5))
		wantMerge(t, list[:cut], list[cut:], dirty(1, 4, 2, 8, 3, 5))
	}
	if !slices.Equal(whole, was) {
		t.Error("P16.1: Merge changes what is handed in")
	}
}

func TestCheckAndFromChangeNothing(t *testing.T) {
	for _, list := range [][]api.Dirty{dirty(1, 4, 3, 9), dirty(3, 9, 1, 4), dirty(64, 0, 3, 3), nil} {
		whole, part := amid(list)
		live := []api.Live{open(1, 9), committed(2, 8), undoing(3, 7), open(90, 90)}
		was, lived := slices.Clone(whole), slices.Clone(live)
		p := api.Points{Live: live[:3], Dirty: part, Next: 4}
		points.Check(p)
		points.From(p)
		if !slices.Equal(whole, was) || !slices.Equal(live, lived) {
			t.Errorf("P16.1: Check or From of %v changes it", list)
		}
	}
}

func TestWhatTakeHandsOutIsNew(t *testing.T) {
	s := made(t, small, 5)
	s.begin(1)
	s.begin(2)
	s.put(1, 1)
	s.put(3, 2)
	live, pages := []api.Live{open(5, 1), open(6, 2)}, dirty(1, 1, 3, 2)
	one, two := s.take(), s.take()
	clear(one.Live[:cap(one.Live)])
	scribble(one.Dirty)
	if !slices.Equal(two.Live, live) || !slices.Equal(two.Dirty, pages) {
		t.Errorf("P16.1: two answers of Take share memory: %v", two)
	}
	s.wantTake(7, live, pages)
	s.begin(3)
	s.put(0, 3)
	s.put(1, 4)
	if !slices.Equal(two.Live, live) || !slices.Equal(two.Dirty, pages) {
		t.Errorf("P16.1: what Take has handed out changes with the table or the pool: %v", two)
	}
	s.wantTake(8, append(live, open(7, 3)), dirty(0, 3, 1, 1, 3, 2))
}
