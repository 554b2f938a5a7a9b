package registry_test

import (
	"math"
	"slices"
	"testing"

	"quota/api"
	"quota/page"
	"quota/registry"
)

func slot(page, index int) api.Slot { return api.Slot{Page: page, Index: index} }

// fresh: a registry that must be one.
func fresh(t *testing.T, pages int) *registry.Registry {
	t.Helper()
	r, fault := registry.New(pages)
	if r == nil || fault != api.OK {
		t.Fatalf("P12.2: New(%d) = %v, %d", pages, r, fault)
	}
	return r
}

// found: a counter, or a group (its where is not asked then), as a registry tells of it.
type found struct {
	id, group   int
	where, sums api.Slot
}

// told: all that a registry says of what is there.
type told struct {
	counters, groups []found
}

func tell(r *registry.Registry) told {
	var out told
	for _, id := range r.Counters() {
		where, group, sums, _ := r.Find(id)
		out.counters = append(out.counters, found{id, group, where, sums})
	}
	for _, id := range r.Groups() {
		sums, _ := r.Group(id)
		out.groups = append(out.groups, found{id: id, sums: sums})
	}
	return out
}

func (a told) same(b told) bool {
	return slices.Equal(a.counters, b.counters) && slices.Equal(a.groups, b.groups)
}

// unchanged is asked with what was told ahead of a call that must have changed nothing.
func unchanged(t *testing.T, r *registry.Registry, before told, promise, call string) {
	t.Helper()
	if got := tell(r); !got.same(before) {
		t.Errorf("%s: %s has made %v of %v", promise, call, got, before)
	}
}

func wantPlan(t *testing.T, r *registry.Registry, counter, group int, where, sums api.Slot) {
	t.Helper()
	before := tell(r)
	if a, b, fault := r.Plan(counter, group); a != where || b != sums || fault != api.OK {
		t.Errorf("P12.3: Plan(%d, %d) = %v, %v, %d, want %v, %v", counter, group, a, b, fault, where, sums)
	}
	unchanged(t, r, before, "P12.3", "Plan")
}

// wantNoPlan: Plan answers the error, and Take does, at any slots.
func wantNoPlan(t *testing.T, r *registry.Registry, counter, group int, want api.Errno) {
	t.Helper()
	before := tell(r)
	if a, b, fault := r.Plan(counter, group); a != (api.Slot{}) || b != (api.Slot{}) || fault != want {
		t.Errorf("P12.3: Plan(%d, %d) = %v, %v, %d, want %d", counter, group, a, b, fault, want)
	}
	unchanged(t, r, before, "P12.3", "a refused Plan")
	for _, s := range []api.Slot{{}, slot(0, 1), slot(1, 0), slot(-1, -1), slot(math.MaxInt, math.MaxInt)} {
		wantTake(t, r, counter, group, s, s, want)
	}
}

func wantTake(t *testing.T, r *registry.Registry, counter, group int, where, sums api.Slot, want api.Errno) {
	t.Helper()
	before := tell(r)
	if got := r.Take(counter, group, where, sums); got != want {
		t.Errorf("P12.4: Take(%d, %d, %v, %v) = %d, want %d", counter, group, where, sums, got, want)
	}
	if want != api.OK {
		unchanged(t, r, before, "P12.1", "a refused Take")
	}
}

// put: a further counter, where Plan says.
func put(t *testing.T, r *registry.Registry, counter, group int) {
	t.Helper()
	where, sums, fault := r.Plan(counter, group)
	if fault != api.OK {
		t.Fatalf("P12.3: Plan(%d, %d) = %d", counter, group, fault)
	}
	if fault = r.Take(counter, group, where, sums); fault != api.OK {
		t.Fatalf("P12.4: Take(%d, %d, %v, %v) = %d", counter, group, where, sums, fault)
	}
}

// putAll: the counters first to last, each in the group that is named.
func putAll(t *testing.T, r *registry.Registry, first, last int, group func(int) int) {
	t.Helper()
	for id := first; id <= last; id++ {
		put(t, r, id, group(id))
	}
}

// only: all counters in one group. Each: every one in its own.
func only(int) int    { return 1 }
func each(id int) int { return id }

func wantFind(t *testing.T, r *registry.Registry, counter int, where api.Slot, group int, sums api.Slot) {
	t.Helper()
	if a, g, b, fault := r.Find(counter); a != where || g != group || b != sums || fault != api.OK {
		t.Errorf("P12.5: Find(%d) = %v, %d, %v, %d, want %v, %d, %v", counter, a, g, b, fault, where, group, sums)
	}
}

func wantNoFind(t *testing.T, r *registry.Registry, counter int) {
	t.Helper()
	if a, g, b, fault := r.Find(counter); a != (api.Slot{}) || g != 0 || b != (api.Slot{}) || fault != api.ErrCounter {
		t.Errorf("P12.5: Find(%d) = %v, %d, %v, %d, want ErrCounter", counter, a, g, b, fault)
	}
}

func wantGroup(t *testing.T, r *registry.Registry, group int, sums api.Slot) {
	t.Helper()
	if got, fault := r.Group(group); got != sums || fault != api.OK {
		t.Errorf("P12.5: Group(%d) = %v, %d, want %v", group, got, fault, sums)
	}
}

func wantNoGroup(t *testing.T, r *registry.Registry, group int) {
	t.Helper()
	if got, fault := r.Group(group); got != (api.Slot{}) || fault != api.ErrGroup {
		t.Errorf("P12.5: Group(%d) = %v, %d, want ErrGroup", group, got, fault)
	}
}

func wantCounters(t *testing.T, r *registry.Registry, want ...int) {
	t.Helper()
	if got := r.Counters(); !slices.Equal(got, want) {
		t.Errorf("P12.6: Counters = %v, want %v", got, want)
	}
}

func wantGroups(t *testing.T, r *registry.Registry, want ...int) {
	t.Helper()
	if got := r.Groups(); !slices.Equal(got, want) {
		t.Errorf("P12.6: Groups = %v, want %v", got, want)
	}
}

func TestNewNeedsPagesWithinTheLimits(t *testing.T) {
	for _, n := range []int{math.MinInt, -2, -1, 0, 1, 65, 66, 1 << 32, math.MaxInt} {
		if r, fault := registry.New(n); r != nil || fault != api.ErrLimits {
			t.Errorf("P12.2: New(%d) = %v, %d, want ErrLimits", n, r, fault)
		}
	}
	for n := 2; n <= 64; n++ {
		r := fresh(t, n)
		wantCounters(t, r)
		wantGroups(t, r)
		wantNoFind(t, r, 1)
		wantNoGroup(t, r, 1)
		wantPlan(t, r, 1, 1, slot(0, 0), slot(n-1, 0))
	}
}

func TestExampleOfOneCounter(t *testing.T) {
	r := fresh(t, 2)
	wantPlan(t, r, 7, 3, slot(0, 0), slot(1, 0))
	wantNoPlan(t, r, 0, 3, api.ErrPlace)
	wantNoPlan(t, r, 7, api.MaxGroup+1, api.ErrPlace)
	wantTake(t, r, 7, 3, slot(0, 1), slot(1, 0), api.ErrSlot)
	wantTake(t, r, 7, 3, slot(0, 0), slot(1, 0), api.OK)
	wantTake(t, r, 7, 3, slot(0, 0), slot(1, 0), api.ErrTwice)
	wantPlan(t, r, 5, 3, slot(0, 1), slot(1, 0))
	wantPlan(t, r, 5, 4, slot(0, 1), slot(1, 1))
	wantFind(t, r, 7, slot(0, 0), 3, slot(1, 0))
	wantNoFind(t, r, 5)
	wantGroup(t, r, 3, slot(1, 0))
	wantNoGroup(t, r, 4)
	wantCounters(t, r, 7)
	wantGroups(t, r, 3)
}

func TestExamplesOfFullStores(t *testing.T) {
	r := fresh(t, 2)
	putAll(t, r, 1, 31, only)
	wantNoPlan(t, r, 32, 1, api.ErrFull)

	r = fresh(t, 2)
	putAll(t, r, 1, 31, each)
	wantGroup(t, r, 31, slot(1, 30))
	wantNoPlan(t, r, 32, 1, api.ErrFull)
	wantNoPlan(t, r, 32, 32, api.ErrFull)

	r = fresh(t, 3)
	putAll(t, r, 1, 31, only)
	wantPlan(t, r, 32, 1, slot(1, 0), slot(2, 0))
	putAll(t, r, 32, 62, only)
	wantNoPlan(t, r, 63, 1, api.ErrFull)
}

func TestNumbersAtTheirLimits(t *testing.T) {
	r := fresh(t, 2)
	wrong := []int{math.MinInt, -1 << 32, -1, 0, 1<<20 + 1, 1 << 31, 1<<32 + 1, math.MaxInt}
	for _, n := range wrong {
		wantNoPlan(t, r, n, 1, api.ErrPlace)
		wantNoPlan(t, r, 1, n, api.ErrPlace)
		wantNoPlan(t, r, n, n, api.ErrPlace)
	}
	for k, id := range []int{1 << 20, 1} {
		wantPlan(t, r, id, id, slot(0, k), slot(1, k))
		put(t, r, id, id)
		wantFind(t, r, id, slot(0, k), id, slot(1, k))
		wantGroup(t, r, id, slot(1, k))
	}
	for _, n := range wrong {
		wantNoFind(t, r, n)
		wantNoGroup(t, r, n)
	}
	wantCounters(t, r, 1, 1<<20)
	wantGroups(t, r, 1, 1<<20)
}

// TestFirstErrorIsAnswered: where several apply.
func TestFirstErrorIsAnswered(t *testing.T) {
	r := fresh(t, 2)
	putAll(t, r, 1, 31, only)
	wantNoPlan(t, r, 1, 0, api.ErrPlace)
	wantNoPlan(t, r, 31, api.MaxGroup+1, api.ErrPlace)
	wantNoPlan(t, r, 32, 0, api.ErrPlace)
	wantNoPlan(t, r, 0, 1, api.ErrPlace)
	wantNoPlan(t, r, 1, 1, api.ErrTwice)
	wantNoPlan(t, r, 31, 2, api.ErrTwice)
	wantNoPlan(t, r, 32, 2, api.ErrFull)
}

// TestTakeAtOtherSlots: each of the four numbers counts, and those of another counter's slot are as wrong as those of none.
func TestTakeAtOtherSlots(t *testing.T) {
	r := fresh(t, 4)
	putAll(t, r, 1, 40, each)
	where, sums := slot(1, 9), slot(3, 40)
	wantPlan(t, r, 50, 50, where, sums)
	off := []api.Slot{{Page: -1}, {Page: 1}, {Page: math.MaxInt}, {Page: math.MinInt}, {Index: 1}, {Index: -1}, {Index: 31}, {Page: 1, Index: -31}}
	for _, d := range off {
		wantTake(t, r, 50, 50, slot(where.Page+d.Page, where.Index+d.Index), sums, api.ErrSlot)
		wantTake(t, r, 50, 50, where, slot(sums.Page+d.Page, sums.Index+d.Index), api.ErrSlot)
	}
	wantTake(t, r, 50, 50, sums, where, api.ErrSlot)
	wantTake(t, r, 50, 50, api.Slot{}, api.Slot{}, api.ErrSlot)
	wantTake(t, r, 50, 7, where, sums, api.ErrSlot)
	wantTake(t, r, 50, 50, where, slot(3, 6), api.ErrSlot)
	wantTake(t, r, 50, 7, where, slot(3, 6), api.OK)
	wantFind(t, r, 50, where, 7, slot(3, 6))
	wantNoGroup(t, r, 50)
}

// TestGroupStaysWhereItStands: its number is that of its first counter, not of its last.
func TestGroupStaysWhereItStands(t *testing.T) {
	r := fresh(t, 3)
	put(t, r, 9, 5)
	put(t, r, 8, 6)
	put(t, r, 7, 5)
	put(t, r, 6, 4)
	wantFind(t, r, 9, slot(0, 0), 5, slot(2, 0))
	wantFind(t, r, 8, slot(0, 1), 6, slot(2, 1))
	wantFind(t, r, 7, slot(0, 2), 5, slot(2, 0))
	wantFind(t, r, 6, slot(0, 3), 4, slot(2, 2))
	wantCounters(t, r, 6, 7, 8, 9)
	wantGroups(t, r, 4, 5, 6)
}

// TestOneGroupMoreNeedsAPage: where a counter of a group that is there has room, one of a new group may have none.
func TestOneGroupMoreNeedsAPage(t *testing.T) {
	r := fresh(t, 4)
	putAll(t, r, 1, 84, each)
	wantGroup(t, r, 84, slot(3, 83))
	wantNoPlan(t, r, 85, 85, api.ErrFull)
	wantPlan(t, r, 85, 84, slot(2, 22), slot(3, 83))
	for id := 85; id <= 93; id++ {
		put(t, r, id, 84)
		wantNoPlan(t, r, 100, 85, api.ErrFull)
	}
	wantFind(t, r, 93, slot(2, 30), 84, slot(3, 83))
	wantNoPlan(t, r, 94, 84, api.ErrFull)
}

// TestOneCounterMoreAndOneGroupMore: of the one page that is left each alone would have room, both together have none.
func TestOneCounterMoreAndOneGroupMore(t *testing.T) {
	r := fresh(t, 5)
	putAll(t, r, 1, 84, each)
	putAll(t, r, 85, 93, only)
	wantNoPlan(t, r, 94, 94, api.ErrFull)
	wantPlan(t, r, 94, 1, slot(3, 0), slot(4, 0))
	put(t, r, 94, 1)
	wantNoPlan(t, r, 95, 95, api.ErrFull)

	r = fresh(t, 5)
	putAll(t, r, 1, 84, each)
	wantPlan(t, r, 85, 85, slot(2, 22), slot(3, 0))
	put(t, r, 85, 85)
	putAll(t, r, 86, 93, each)
	wantNoPlan(t, r, 94, 1, api.ErrFull)
	wantGroup(t, r, 84, slot(4, 83))
	wantGroup(t, r, 85, slot(3, 0))
	wantGroup(t, r, 93, slot(3, 8))
}

// TestEveryStoreFillsWhole: with all counters in one group, and with every counter in a group of its own.
func TestEveryStoreFillsWhole(t *testing.T) {
	for pages := 2; pages <= 64; pages++ {
		r := fresh(t, pages)
		most := (pages - 1) * 31
		putAll(t, r, 1, most, only)
		wantFind(t, r, most, slot(pages-2, 30), 1, slot(pages-1, 0))
		wantNoPlan(t, r, most+1, 1, api.ErrFull)

		r = fresh(t, pages)
		n := 0
		for (n+1+30)/31+(n+1+83)/84 <= pages {
			n++
			put(t, r, n, n)
		}
		wantFind(t, r, n, slot((n-1)/31, (n-1)%31), n, slot(pages-1-(n-1)/84, (n-1)%84))
		wantNoPlan(t, r, n+1, n+1, api.ErrFull)
	}
}

// TestRoomIsThatOfPages: what the registry takes for full, the pages' own bytes do too.
func TestRoomIsThatOfPages(t *testing.T) {
	r := fresh(t, 8)
	putAll(t, r, 1, page.Groups+1, each)
	wantFind(t, r, page.Counters, slot(0, page.Counters-1), page.Counters, slot(7, page.Counters-1))
	wantFind(t, r, page.Counters+1, slot(1, 0), page.Counters+1, slot(7, page.Counters))
	wantGroup(t, r, page.Groups, slot(7, page.Groups-1))
	wantGroup(t, r, page.Groups+1, slot(6, 0))
}
