package page_test

import (
	"bytes"
	"math"
	"math/rand/v2"
	"slices"
	"testing"

	"quota/api"
	"quota/page"
)

// roomy: the page with spare room behind its lists, in which something stands.
func roomy(d *rand.Rand, p page.Page) page.Page {
	counters := append(slices.Clone(p.Counters), drawnCounters(d, 5)...)
	groups := append(slices.Clone(p.Groups), drawnGroups(d, 5)...)
	p.Counters, p.Groups = counters[:len(p.Counters)], groups[:len(p.Groups)]
	return p
}

// whole: with what stands in the spare room.
func whole(p page.Page) page.Page {
	p.Counters, p.Groups = p.Counters[:cap(p.Counters)], p.Groups[:cap(p.Groups)]
	return p
}

// kept: what stands there now.
func kept(p page.Page) page.Page {
	p = whole(p)
	p.Counters, p.Groups = slices.Clone(p.Counters), slices.Clone(p.Groups)
	return p
}

// scribble writes over all of a page's memory.
func scribble(p page.Page) {
	p = whole(p)
	for i := range p.Counters {
		p.Counters[i] = api.Counter{ID: -1, Group: -1, Bounds: api.Range{Lo: 9, Hi: 8}, Value: 7}
	}
	for i := range p.Groups {
		p.Groups[i] = api.Group{ID: -1, Sum: 7}
	}
}

func TestEncodeLeavesItsPage(t *testing.T) {
	d := drawn()
	for _, p := range rightPages(d) {
		p = roomy(d, p)
		before := kept(p)
		a, _ := page.Encode(p)
		if !same(whole(p), before) {
			t.Fatalf("P7.1: Encode has changed %+v", before)
		}
		b, _ := page.Encode(p)
		for _, out := range [][]byte{a[:cap(a)], b[:cap(b)]} {
			for i := range out {
				out[i] ^= 0xff
			}
		}
		if !same(whole(p), before) || !bytes.Equal(a, b) {
			t.Fatal("P7.1: what Encode has answered is not memory of its own")
		}
		if again, e := page.Encode(p); e != api.OK || !bytes.Equal(again, modelBytes(p)) {
			t.Fatal("P7.1: Encode answers otherwise the next time")
		}
	}
}

func TestDecodeLeavesItsBytes(t *testing.T) {
	d := drawn()
	for _, p := range rightPages(d) {
		room := append(modelBytes(p), 1, 2, 3, 4)
		before := bytes.Clone(room)
		a, e := page.Decode(room[:1024], p.Number)
		b, _ := page.Decode(room[:1024], p.Number)
		if e != api.OK || !bytes.Equal(room, before) {
			t.Fatalf("P7.1: Decode has changed its bytes, or %d", e)
		}
		for i := range room {
			room[i] = 0xee
		}
		if !same(a, p) || !same(b, p) {
			t.Fatal("P7.1: Decode keeps what it was handed")
		}
		scribble(a)
		if !same(b, p) {
			t.Fatal("P7.1: two answers of Decode share memory")
		}
		if again, e := page.Decode(before[:1024], p.Number); e != api.OK || !same(again, p) {
			t.Fatal("P7.1: Decode answers otherwise the next time")
		}
	}
}

func TestRefusalsLeaveTheirArguments(t *testing.T) {
	d := drawn()
	for _, p := range rightPages(d) {
		p = roomy(d, p)
		p.LSN = -1
		before := kept(p)
		wantRefused(t, "LSN -1", p, api.ErrField)
		room := append(modelBytes(page.Page{Number: p.Number, LSN: 1, Groups: drawnGroups(d, 3)}), 1, 2, 3)
		room[1023] ^= 1
		held := bytes.Clone(room)
		wantNoDecode(t, "P7.3: a bit turned", room[:1024], p.Number, api.ErrSum)
		if !same(whole(p), before) || !bytes.Equal(room, held) {
			t.Fatal("P7.1: a call that is refused has changed what it was handed")
		}
	}
}

// wantCopy: the same, whatever is written into either of them.
func wantCopy(t *testing.T, p page.Page) {
	t.Helper()
	before := kept(p)
	a, b := p.Copy(), p.Copy()
	if !same(a, p) || !same(b, p) || !same(whole(p), before) {
		t.Fatalf("P7.4: Copy of %+v is %+v", p, a)
	}
	scribble(a)
	if !same(whole(p), before) || !same(b, p) {
		t.Fatalf("P7.4: what is written into a copy of %+v is seen elsewhere", before)
	}
	scribble(p)
	p.Counters, p.Groups = before.Counters[:len(p.Counters)], before.Groups[:len(p.Groups)]
	if !same(b, p) {
		t.Fatalf("P7.4: what is written into %+v is seen in its copy", before)
	}
}

func TestCopyHasListsOfItsOwn(t *testing.T) {
	d := drawn()
	for _, p := range rightPages(d) {
		wantCopy(t, p.Copy())
		wantCopy(t, roomy(d, p))
	}
}

func TestCopyOfPagesThatAreNotRight(t *testing.T) {
	d := drawn()
	for _, p := range []page.Page{
		{},
		{Number: math.MinInt, LSN: math.MaxInt},
		{Number: -1, LSN: -1, Counters: []api.Counter{}, Groups: []api.Group{}},
		{Number: 64, Counters: drawnCounters(d, 3), Groups: drawnGroups(d, 2)},
		{Counters: make([]api.Counter, 500), Groups: make([]api.Group, 700)},
		{LSN: 1, Counters: []api.Counter{{ID: -1, Group: 1 << 40, Bounds: api.Range{Lo: 2, Hi: 1}}}},
	} {
		wantCopy(t, roomy(d, p))
		wantCopy(t, p)
	}
}
