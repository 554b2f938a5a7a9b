package apply_test

import (
	"slices"
	"testing"

	"quota/api"
	"quota/apply"
	"quota/page"
)

// roomy: the page with spare room behind its lists, in which something stands.
func roomy(p page.Page) page.Page {
	c := append(slices.Clone(p.Counters), counters(5)...)
	g := append(slices.Clone(p.Groups), groups(5)...)
	p.Counters, p.Groups = c[:len(p.Counters)], g[:len(p.Groups)]
	return p
}

// whole: with what stands in the spare room.
func whole(p page.Page) page.Page {
	p.Counters, p.Groups = p.Counters[:cap(p.Counters)], p.Groups[:cap(p.Groups)]
	return p
}

// kept: what stands there now.
func kept(p page.Page) page.Page {
	p = whole(p)
	p.Counters, p.Groups = slices.Clone(p.Counters), slices.Clone(p.Groups)
	return p
}

// scribble writes over all of a page's memory, spare room too.
func scribble(p page.Page) {
	p = whole(p)
	for i := range p.Counters {
		p.Counters[i] = api.Counter{ID: -7, Group: -7, Value: -7}
	}
	for i := range p.Groups {
		p.Groups[i] = api.Group{ID: -7, Sum: -7}
	}
}

// points: lists that a record of these kinds should not have, with spare room.
func points() api.Points {
	live := []api.Live{{Tx: 1, Last: 1}, {Tx: 2, Last: 2}, {Tx: 3, Last: 3}}
	dirty := []api.Dirty{{Page: 1, Since: 1}, {Page: 2, Since: 2}, {Page: 3, Since: 3}}
	return api.Points{Live: live[:2], Dirty: dirty[:1], Next: 4}
}

func samePoints(p, q api.Points) bool {
	return slices.Equal(p.Live[:3], q.Live[:3]) && slices.Equal(p.Dirty[:3], q.Dirty[:3]) && p.Next == q.Next
}

func TestMemory(t *testing.T) {
	rnd := drawn()
	met := map[api.Errno]int{}
	for range 5000 {
		p := roomy(drawPage(rnd))
		r := drawRecord(rnd, p)
		r.Points = points()
		before := kept(p)
		want, _, _ := modelDo(p, r)
		want = kept(want)
		a, _, e := apply.Do(p, r)
		b, _, _ := apply.Do(p, r)
		met[e]++
		if !same(whole(p), before) || !samePoints(r.Points, points()) {
			t.Fatalf("P14.1: Do(%v, %v) has changed what it was handed", before, r)
		}
		want.Counters, want.Groups = want.Counters[:len(a.Counters)], want.Groups[:len(a.Groups)]
		scribble(a)
		if !same(whole(p), before) || !same(b, want) {
			t.Fatalf("P14.1: what is written into an answer of Do(%v, %v) is seen elsewhere", before, r)
		}
		scribble(p)
		if !same(b, want) {
			t.Fatalf("P14.1: an answer of Do(%v, %v) shares memory with the page that was handed in", before, r)
		}
	}
	if met[api.OK] < 1000 {
		t.Errorf("the draw is lopsided: %v", met)
	}
}

// TestSpareRoomIsNotTaken: a page with room for one more behind its list, which somebody else may use.
func TestSpareRoomIsNotTaken(t *testing.T) {
	c, g := counters(3), groups(3)
	r := turned(create(), func(r *api.Record) { r.Where.Index, r.Sums.Index = 2, 2 })
	wantDo(t, ofCounters(0, 1, c[:2]...), r, ofCounters(0, 4, counter(0), counter(1), counter(5)))
	wantDo(t, ofGroups(3, 1, g[:2]...), r, ofGroups(3, 4, append(groups(2), api.Group{ID: 2, Sum: 5})...))
	if !slices.Equal(c, counters(3)) || !slices.Equal(g, groups(3)) {
		t.Errorf("P14.1: Do has written behind the lists of its page: %v, %v", c, g)
	}
}

func TestPagesAreNewMemory(t *testing.T) {
	for _, r := range []api.Record{create(), add(), turned(undo(), func(r *api.Record) { r.Sums.Page = 0 })} {
		a, b := apply.Pages(r), apply.Pages(r)
		want := slices.Clone(b)
		a = a[:cap(a)]
		for i := range a {
			a[i] = -7
		}
		if !slices.Equal(b, want) {
			t.Errorf("P14.1: two lists of Pages share memory: %v", b)
		}
		wantPages(t, r, want...)
	}
}
