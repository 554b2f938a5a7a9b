package registry_test

import (
	"math"
	"math/rand/v2"
	"slices"
	"testing"

	"quota/api"
	"quota/registry"
)

func drawn() *rand.Rand { return rand.New(rand.NewPCG(12, 0)) }

// model: the store's pages, filled cell by cell from both ends. Every answer is looked for in them.
type model struct {
	pages []filled
	group map[int]int // a counter's
}

// filled: a page's numbers, by their index; all of counters, or all of groups.
type filled struct {
	counters, groups []int
}

func newModel(pages int) *model {
	return &model{pages: make([]filled, pages), group: map[int]int{}}
}

func (m *model) counter(id int) (api.Slot, bool) {
	for p, x := range m.pages {
		if k := slices.Index(x.counters, id); k >= 0 {
			return slot(p, k), true
		}
	}
	return api.Slot{}, false
}

func (m *model) sums(id int) (api.Slot, bool) {
	for p, x := range m.pages {
		if k := slices.Index(x.groups, id); k >= 0 {
			return slot(p, k), true
		}
	}
	return api.Slot{}, false
}

// freeForCounter: the first cell of the first page that is of no sums and not full; the page itself is looked for, not reckoned.
func (m *model) freeForCounter() (api.Slot, bool) {
	for p, x := range m.pages {
		if len(x.groups) == 0 && len(x.counters) < 31 {
			return slot(p, len(x.counters)), true
		}
	}
	return api.Slot{}, false
}

func (m *model) freeForGroup() (api.Slot, bool) {
	for p := len(m.pages) - 1; p >= 0; p-- {
		if x := m.pages[p]; len(x.counters) == 0 && len(x.groups) < 84 {
			return slot(p, len(x.groups)), true
		}
	}
	return api.Slot{}, false
}

func (m *model) plan(counter, group int) (where, sums api.Slot, fault api.Errno) {
	if counter < 1 || counter > 1<<20 || group < 1 || group > 1<<20 {
		return api.Slot{}, api.Slot{}, api.ErrPlace
	}
	if _, there := m.counter(counter); there {
		return api.Slot{}, api.Slot{}, api.ErrTwice
	}
	where, room := m.freeForCounter()
	sums, there := m.sums(group)
	if !there {
		var more bool
		sums, more = m.freeForGroup()
		// One free page alone would be the counter's and the group's.
		room = room && more && where.Page != sums.Page
	}
	if !room {
		return api.Slot{}, api.Slot{}, api.ErrFull
	}
	return where, sums, api.OK
}

func (m *model) take(counter, group int, where, sums api.Slot) api.Errno {
	a, b, fault := m.plan(counter, group)
	if fault != api.OK {
		return fault
	}
	if a != where || b != sums {
		return api.ErrSlot
	}
	if _, there := m.sums(group); !there {
		m.pages[b.Page].groups = append(m.pages[b.Page].groups, group)
	}
	m.pages[a.Page].counters = append(m.pages[a.Page].counters, counter)
	m.group[counter] = group
	return api.OK
}

func (m *model) told() told {
	var out told
	for p, x := range m.pages {
		for k, id := range x.counters {
			sums, _ := m.sums(m.group[id])
			out.counters = append(out.counters, found{id, m.group[id], slot(p, k), sums})
		}
		for k, id := range x.groups {
			out.groups = append(out.groups, found{id: id, sums: slot(p, k)})
		}
	}
	byID := func(a, b found) int { return a.id - b.id }
	slices.SortFunc(out.counters, byID)
	slices.SortFunc(out.groups, byID)
	return out
}

// wellPlaced: P12.7 of what a registry tells by itself, whatever a model says.
func wellPlaced(t *testing.T, pages int, now told) {
	t.Helper()
	counters, groups := map[api.Slot]int{}, map[api.Slot]int{}
	last, first := -1, pages
	for _, c := range now.counters {
		counters[c.where]++
		last = max(last, c.where.Page)
	}
	for _, g := range now.groups {
		groups[g.sums]++
		first = min(first, g.sums.Page)
	}
	if last >= first || first < 0 || last >= pages {
		t.Errorf("P12.7: counters up to page %d, sums from page %d on, of %d pages", last, first, pages)
	}
	for k := range now.counters {
		if s := slot(k/31, k%31); counters[s] != 1 {
			t.Errorf("P12.7: %d counters stand in %v", counters[s], s)
		}
	}
	for k := range now.groups {
		if s := slot(pages-1-k/84, k%84); groups[s] != 1 {
			t.Errorf("P12.7: %d groups stand in %v", groups[s], s)
		}
	}
}

// stays: P12.7: what stood ahead stands there still.
func stays(t *testing.T, before, now told) {
	t.Helper()
	for _, f := range before.counters {
		if !slices.Contains(now.counters, f) {
			t.Errorf("P12.7: counter %v does not stay as it is: %v", f, now.counters)
		}
	}
	for _, f := range before.groups {
		if !slices.Contains(now.groups, f) {
			t.Errorf("P12.7: group %v does not stay as it is: %v", f, now.groups)
		}
	}
}

// numbers that a script draws from: mostly good ones, so that a store fills, and now and then one beside the limits.
func number(rnd *rand.Rand, most int) int {
	if rnd.IntN(20) == 0 {
		odd := []int{math.MinInt, -1, 0, 1<<20 + 1, math.MaxInt, 1 << 20, 1}
		return odd[rnd.IntN(len(odd))]
	}
	return 1 + rnd.IntN(most)
}

// near: the slot, or one beside it.
func near(rnd *rand.Rand, s api.Slot) api.Slot {
	switch rnd.IntN(8) {
	case 0:
		s.Index += rnd.IntN(3) - 1
	case 1:
		s.Page += rnd.IntN(3) - 1
	}
	return s
}

// step: one call of both, which must answer alike.
func step(t *testing.T, rnd *rand.Rand, r *registry.Registry, m *model, most, groups int) {
	t.Helper()
	id, group := number(rnd, most), number(rnd, groups)
	a, b, fault := r.Plan(id, group)
	x, y, want := m.plan(id, group)
	if a != x || b != y || fault != want {
		t.Fatalf("P12.3: Plan(%d, %d) = %v, %v, %d, want %v, %v, %d", id, group, a, b, fault, x, y, want)
	}
	a, b = near(rnd, a), near(rnd, b)
	if got, want := r.Take(id, group, a, b), m.take(id, group, a, b); got != want {
		t.Fatalf("P12.4: Take(%d, %d, %v, %v) = %d, want %d", id, group, a, b, got, want)
	}
	where, of, sums, fault := r.Find(id)
	s, there := m.counter(id)
	g, _ := m.sums(m.group[id])
	if where != s || of != m.group[id] || sums != g || (fault == api.OK) != there || !there && fault != api.ErrCounter {
		t.Fatalf("P12.5: Find(%d) = %v, %d, %v, %d, want %v, %d, %v", id, where, of, sums, fault, s, m.group[id], g)
	}
	sums, fault = r.Group(group)
	if g, there := m.sums(group); sums != g || (fault == api.OK) != there || !there && fault != api.ErrGroup {
		t.Fatalf("P12.5: Group(%d) = %v, %d, want %v, %v", group, sums, fault, g, there)
	}
}

func TestAgainstThePagesThemselves(t *testing.T) {
	rnd := drawn()
	for run := range 120 {
		pages := 2 + run%9
		groups := []int{1, 3, 90, 400, 1 << 20}[rnd.IntN(5)]
		r, m := fresh(t, pages), newModel(pages)
		before := tell(r)
		for k := range 40 + 45*pages {
			step(t, rnd, r, m, 60*pages, groups)
			if k%16 != 0 {
				continue
			}
			now := tell(r)
			if !now.same(m.told()) {
				t.Fatalf("P12.6: %d pages, told %v, want %v", pages, now, m.told())
			}
			wellPlaced(t, pages, now)
			stays(t, before, now)
			before = now
		}
		wellPlaced(t, pages, tell(r))
	}
}

// TestTheGreatestStore: one of MaxPages, filled to its end.
func TestTheGreatestStore(t *testing.T) {
	rnd := drawn()
	r, m := fresh(t, api.MaxPages), newModel(api.MaxPages)
	for range 4000 {
		step(t, rnd, r, m, 1<<20, 500)
	}
	if _, _, fault := r.Plan(2, 1); fault != api.ErrFull {
		t.Errorf("P12.3: Plan = %d with %d counters and %d groups", fault, len(r.Counters()), len(r.Groups()))
	}
	if now := tell(r); !now.same(m.told()) {
		t.Errorf("P12.6: told %v, want %v", now, m.told())
	}
	wellPlaced(t, api.MaxPages, tell(r))
}

// TestTheSameWayAgain: a second registry takes what the first one has, where it has it, in the order of the slots; the first one's refused calls leave no trace.
func TestTheSameWayAgain(t *testing.T) {
	rnd := drawn()
	for run := range 60 {
		pages := 2 + run%7
		first, m := fresh(t, pages), newModel(pages)
		for range rnd.IntN(60 * pages) {
			step(t, rnd, first, m, 60*pages, 1+run*9)
		}
		again := fresh(t, pages)
		all := tell(first)
		slices.SortFunc(all.counters, func(a, b found) int {
			return (a.where.Page-b.where.Page)*31 + a.where.Index - b.where.Index
		})
		for _, c := range all.counters {
			if fault := again.Take(c.id, c.group, c.where, c.sums); fault != api.OK {
				t.Fatalf("P12.8: Take(%d, %d, %v, %v) = %d", c.id, c.group, c.where, c.sums, fault)
			}
		}
		sameAnswers(t, first, again, 60*pages+2)
	}
}

func sameAnswers(t *testing.T, a, b *registry.Registry, most int) {
	t.Helper()
	if !tell(a).same(tell(b)) {
		t.Errorf("P12.8: %v and %v", tell(a), tell(b))
	}
	for id := -1; id <= most; id++ {
		for _, group := range []int{0, 1, id, most, api.MaxGroup} {
			x, y, fault := a.Plan(id, group)
			v, w, fault2 := b.Plan(id, group)
			if x != v || y != w || fault != fault2 {
				t.Errorf("P12.8: Plan(%d, %d) = %v, %v, %d and %v, %v, %d", id, group, x, y, fault, v, w, fault2)
			}
		}
		_, _, _, fault := a.Find(id)
		_, _, _, fault2 := b.Find(id)
		_, fault3 := a.Group(id)
		_, fault4 := b.Group(id)
		if fault != fault2 || fault3 != fault4 {
			t.Errorf("P12.8: of %d: %d and %d, %d and %d", id, fault, fault2, fault3, fault4)
		}
	}
}
