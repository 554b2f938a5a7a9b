package registry_test

import (
	"slices"
	"testing"

	"quota/api"
)

// scribble writes over all of a list's memory, spare room too.
func scribble(list []int) {
	list = list[:cap(list)]
	for i := range list {
		list[i] = -7
	}
}

func TestListsAreNewMemory(t *testing.T) {
	r := fresh(t, 4)
	for _, id := range []int{12, 4, 33, 9, 5} {
		put(t, r, id, 1+id%4)
	}
	before := tell(r)
	counters, groups := r.Counters(), r.Groups()
	counters2, groups2 := r.Counters(), r.Groups()
	scribble(counters)
	scribble(groups)
	if !slices.Equal(counters2, []int{4, 5, 9, 12, 33}) || !slices.Equal(groups2, []int{1, 2}) {
		t.Errorf("P12.1: two lists share memory: %v, %v", counters2, groups2)
	}
	scribble(counters2)
	scribble(groups2)
	unchanged(t, r, before, "P12.1", "writing over lists")
	wantPlan(t, r, 2, 3, slot(0, 5), slot(3, 2))
}

func TestRegistriesKnowNothingOfOneAnother(t *testing.T) {
	a, b := fresh(t, 2), fresh(t, 2)
	putAll(t, a, 1, 31, only)
	wantNoPlan(t, a, 32, 1, api.ErrFull)
	wantCounters(t, b)
	wantGroups(t, b)
	wantPlan(t, b, 1, 1, slot(0, 0), slot(1, 0))
	before := tell(a)
	put(t, b, 40, 9)
	put(t, b, 1, 2)
	unchanged(t, a, before, "P12.1", "another registry")
	wantNoFind(t, a, 40)
	wantNoGroup(t, a, 9)
	wantFind(t, a, 1, slot(0, 0), 1, slot(1, 0))
	wantFind(t, b, 1, slot(0, 1), 2, slot(1, 1))
}
