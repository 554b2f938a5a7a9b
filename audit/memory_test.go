package audit_test

import (
	"bytes"
	"reflect"
	"slices"
	"testing"

	"quota/api"
	"quota/audit"
	"quota/page"
)

// scribble writes over all of a list's memory, spare room too.
func scribble[T any](list []T, with T) {
	list = list[:cap(list)]
	for i := range list {
		list[i] = with
	}
}

// full: an image of which every list of the report has something.
func full(t *testing.T) *hand {
	h := blank(t, api.Shape{Pages: 6, Log: 9, Frames: 2})
	list := records()
	list = append(list, list[6])
	h.log(list...)
	h.pages(ofCounters(0, 6, counter(7, 2, 0, 10, 5)), ofSums(1, 9, sum(2, 5), sum(1, 0)), ofCounters(2, 10, counter(3, 1, -9, 9, 0), counter(1, 1, -9, 9, 0)))
	h.sector(5 + 2*3)[0], h.sector(5 + 2*5)[0] = 1, 1
	h.marker(5+2*4, h.bytes(page.Page{Number: 4}))
	return h
}

// lists: scribble over each list of a report by itself.
func lists(r audit.Report) []func() {
	out := []func(){
		func() { scribble(r.Counters, counter(9, 9, 9, 9, 9)) },
		func() { scribble(r.Groups, sum(9, 9)) },
		func() { scribble(r.Ahead, 9) },
		func() { scribble(r.Torn, 9) },
	}
	for _, one := range r.Records {
		out = append(out, func() { scribble(one.Points.Live, api.Live{Tx: 9}) }, func() { scribble(one.Points.Dirty, api.Dirty{Page: 9}) })
	}
	return append(out, func() { scribble(r.Records, api.Record{LSN: 9}) })
}

// copied: a report with lists of its own.
func copied(r audit.Report) audit.Report {
	r.Counters, r.Groups, r.Ahead, r.Torn, r.Records = slices.Clone(r.Counters), slices.Clone(r.Groups), slices.Clone(r.Ahead), slices.Clone(r.Torn), slices.Clone(r.Records)
	for k := range r.Records {
		p := &r.Records[k].Points
		p.Live, p.Dirty = slices.Clone(p.Live), slices.Clone(p.Dirty)
	}
	return r
}

// TestListsShareNothing: each list of a report is written over; the others, and another report, stay.
func TestListsShareNothing(t *testing.T) {
	h := full(t)
	want := h.look()
	if len(want.Counters) != 3 || len(want.Groups) != 2 || len(want.Ahead) != 2 || len(want.Torn) != 2 || len(want.Records) != 8 || !want.Finish {
		t.Fatalf("a poor image: %v", want)
	}
	keep := copied(want)
	for k := range lists(want) {
		r := h.look()
		lists(r)[k]()
		if !alike(want, keep) || !alike(h.look(), keep) {
			t.Fatalf("P22.1: list %d is another report's too", k)
		}
		changed := 0
		for _, same := range []bool{
			slices.Equal(r.Counters, keep.Counters), slices.Equal(r.Groups, keep.Groups), slices.Equal(r.Ahead, keep.Ahead), slices.Equal(r.Torn, keep.Torn),
			reflect.DeepEqual(copied(r).Records, keep.Records),
		} {
			if !same {
				changed++
			}
		}
		if changed > 1 {
			t.Errorf("P22.1: two lists of a report share memory: %v", r)
		}
	}
}

// TestImagesAreNotKept: nor changed; spare room too.
func TestImagesAreNotKept(t *testing.T) {
	h := full(t)
	roomy := append(make([]byte, 0, len(h.image)+1024), h.image...)
	spare := roomy[len(roomy):cap(roomy)]
	scribble(spare, 0x6c)
	r, e := audit.Look(roomy)
	ok, f := audit.Clean(roomy)
	if e != api.OK || f != api.OK || ok || !bytes.Equal(roomy, h.image) || len(bytes.Trim(spare, "\x6c")) != 0 {
		t.Errorf("P22.1: Look answers %d, Clean %v, %d; the image stays: %v", e, ok, f, bytes.Equal(roomy, h.image))
	}
	keep := copied(r)
	scribble(roomy, 0)
	if !alike(r, keep) {
		t.Errorf("P22.1: the report has become %v of %v", r, keep)
	}
}

// TestRecordsAreNotKept: nor changed; spare room too; nor is what is answered.
func TestRecordsAreNotKept(t *testing.T) {
	for _, last := range []api.Record{done(1), made(counter(7, 1, 0, 0, 0)), added(1, 99, 0), added(1, 3, most)} {
		list := append(make([]api.Record, 0, 12), made(counter(7, 2, 0, 10, 5)), made(counter(3, 2, 0, 10, 1)), added(1, 7, 1), added(1, 3, 1), done(1), records()[6], last)
		scribble(list[len(list):], made(counter(8, 8, 8, 8, 8)))
		before := slices.Clone(list[:cap(list)])
		got, _ := audit.Settled(list)
		if !reflect.DeepEqual(list[:cap(list)], before) {
			t.Errorf("P22.1: Settled has made %v of %v", list[:cap(list)], before)
		}
		want := slices.Clone(got)
		scribble(list, made(counter(8, 8, 8, 8, 8)))
		if !slices.Equal(got, want) {
			t.Errorf("P22.1: the answer has become %v of %v", got, want)
		}
		other, _ := audit.Settled(before[:len(list)])
		scribble(got, counter(9, 9, 9, 9, 9))
		if !slices.Equal(other, want) {
			t.Errorf("P22.1: two answers share memory")
		}
	}
}
