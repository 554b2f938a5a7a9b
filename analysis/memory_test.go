package analysis_test

import (
	"math/rand/v2"
	"slices"
	"testing"

	"quota/analysis"
	"quota/api"
)

// within: the records amid a longer list, each checkpoint's lists amid longer ones.
func within(records []api.Record) (whole, part []api.Record) {
	whole = slices.Concat([]api.Record{began(90)}, records, []api.Record{began(91), began(92)})
	for k := range whole {
		p := &whole[k].Points
		live := slices.Concat([]api.Live{open(90, 91)}, p.Live, []api.Live{open(92, 93), open(94, 95)})
		pages := slices.Concat(dirty(90, 91), p.Dirty, dirty(92, 93, 94, 95))
		p.Live, p.Dirty = live[1:1+len(p.Live)], pages[1:1+len(p.Dirty)]
	}
	return whole, whole[1 : 1+len(records)]
}

// deep: a copy that shares nothing; what stands in the spare room of a list is part of the copy's.
func deep(records []api.Record) []api.Record {
	out := slices.Clone(records)
	for k := range out {
		p := &out[k].Points
		p.Live, p.Dirty = slices.Clone(p.Live[:cap(p.Live)]), slices.Clone(p.Dirty[:cap(p.Dirty)])
	}
	return out
}

// stays: the records are still those of the copy that deep made.
func stays(records, was []api.Record) bool {
	return slices.EqualFunc(deep(records), was, func(x, y api.Record) bool {
		alike := slices.Equal(x.Points.Live, y.Points.Live) && slices.Equal(x.Points.Dirty, y.Points.Dirty) && x.Points.Next == y.Points.Next
		return alike && x.LSN == y.LSN && x.Kind == y.Kind && x.Tx == y.Tx && x.Prev == y.Prev && x.Where == y.Where &&
			x.Sums == y.Sums && x.Delta == y.Delta && x.Counter == y.Counter
	})
}

// scribble writes over all of an answer's memory, spare room too.
func scribble(f analysis.Found) {
	for k := range f.Live[:cap(f.Live)] {
		f.Live[:cap(f.Live)][k] = open(-7, -7)
	}
	for k := range f.Dirty[:cap(f.Dirty)] {
		f.Dirty[:cap(f.Dirty)][k] = api.Dirty{Page: -7, Since: -7}
	}
}

// spoilAll writes over all that was handed in, spare room too.
func spoilAll(whole []api.Record) {
	for k := range whole {
		scribble(analysis.Found{Live: whole[k].Points.Live, Dirty: whole[k].Points.Dirty})
		whole[k] = began(-7)
	}
}

func wantOwnMemory(t *testing.T, records []api.Record, point int) {
	t.Helper()
	f, fault := model(records, point)
	whole, part := within(records)
	was := deep(whole)
	one, e := analysis.Run(part, point)
	two, _ := analysis.Run(part, point)
	if !stays(whole, was) {
		t.Fatalf("P17.1: Run from %d on changes what is handed in: %v", point, records)
	}
	scribble(one)
	if !stays(whole, was) || !same(two, f) || e != fault {
		t.Fatalf("P17.1: what Run from %d on hands out of %v is not new", point, records)
	}
	spoilAll(whole)
	if !same(two, f) {
		t.Fatalf("P17.1: Run from %d on hands out what was handed in: %v", point, records)
	}
	if e != api.OK && !same(one, analysis.Found{}) {
		t.Fatalf("P17.1: with error %d Run answers %v", e, one)
	}
}

func TestOwnMemory(t *testing.T) {
	for _, point := range []int{-1, 0, 3, 4, 7} {
		wantOwnMemory(t, examples(), point)
		wantOwnMemory(t, examples()[:4], point)
		wantOwnMemory(t, nil, point)
	}
	rnd := rand.New(rand.NewPCG(17, 1))
	for n := range 200 {
		all := drawLog(rnd, 1+rnd.IntN(25))
		if n%3 == 0 {
			spoil(rnd, &all[rnd.IntN(len(all))])
		}
		for point := range len(all) + 2 {
			wantOwnMemory(t, all, point)
		}
	}
}

// TestNothingIsKept: what a run has found is nothing to the next one.
func TestNothingIsKept(t *testing.T) {
	all := examples()
	for range 3 {
		want(t, "all", all, 0, 2, 3, dirty(0, 2, 3, 2), committed(1, 5), open(2, 6))
		refused(t, "a wrong point", all, 5, api.ErrPlace)
		want(t, "from the checkpoint on", all, 4, 2, 3, dirty(0, 2), committed(1, 5), open(2, 6))
		want(t, "nothing", nil, 0, 0, 1, nil)
	}
}
