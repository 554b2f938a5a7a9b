package pool_test

import (
	"slices"
	"testing"

	"quota/api"
	"quota/page"
	"quota/sectors"
	"quota/twin"
)

// past: what a page has been through, as far as it may be found again.
type past struct {
	states   []page.Page
	answered int // the index of the last one that Flush or Evict has answered for, or that was there first
}

// history: of all pages of a script, told by its answers alone.
type history []*past

func newHistory(pages int) history {
	var h history
	for n := range pages {
		h = append(h, &past{states: []page.Page{at(n, 0)}})
	}
	return h
}

// note: what the step has changed by its answer.
func (h history) note(s step, x page.Page, e api.Errno) {
	if e != api.OK || s.n < 0 || s.n >= len(h) {
		return
	}
	switch p := h[s.n]; s.kind {
	case doPut:
		p.states = append(p.states, x)
	case doEvict, doFlush:
		p.answered = len(p.states) - 1
	}
}

// play: a script, up to the step at which the disk gives up.
func (h history) play(w *pair, script []step) {
	w.t.Helper()
	for _, s := range script {
		var x page.Page
		if s.kind == doPut {
			x = w.next(s)
		}
		e := w.play(s)
		h.note(s, x, e)
		if w.disk.Down() {
			return
		}
	}
}

// wantOldOrNew: what a crash has left of an image: no page is ahead of the log, and none is torn, lost or behind what was answered for.
func wantOldOrNew(t *testing.T, image []byte, shape api.Shape, h history) {
	t.Helper()
	d, e := sectors.Load(image)
	if e != api.OK {
		t.Fatalf("Load: %d", e)
	}
	if _, err := twin.Finish(d, 2); err != nil {
		t.Fatalf("P9.10: Finish = %v", err)
	}
	l := opened(t, d, shape)
	for n, p := range h {
		x := homed(t, d, n)
		if x.LSN > l.Last() {
			t.Fatalf("P9.8: page %d has LSN %d, the log ends with %d", n, x.LSN, l.Last())
		}
		i := slices.IndexFunc(p.states, func(y page.Page) bool { return same(x, y) })
		if i < p.answered {
			t.Fatalf("P9.10: page %d is state %d (%+v) of %d, and %d was answered for", n, i, x, len(p.states), p.answered)
		}
	}
}

// losses: of up to three pending writes: every choice of whole ones, and beside it each one torn.
func losses() []api.Loss {
	var out []api.Loss
	for keep := range uint64(8) {
		out = append(out, api.Loss{Keep: []uint64{keep}, Torn: -1})
		for torn := range 3 {
			for _, offset := range []int{1, 8, 300, 511} {
				out = append(out, api.Loss{Keep: []uint64{keep}, Torn: torn, Offset: offset})
			}
		}
	}
	return out
}

// all: a script in which pages are written by every call that writes them, ahead of records that are forced for them.
func all() []step {
	return []step{
		{doAppend, 3, 0},
		{doGet, 0, 0}, {doPut, 0, 1}, {doPut, 0, 1},
		{doGet, 1, 0}, {doPut, 1, 3},
		{doFlush, 0, 0}, {doGet, 0, 0},
		{doGet, 2, 0}, // 1 leaves
		{doAppend, 3, 0},
		{doPut, 2, 4}, {doPut, 0, 3}, {doPut, 0, 1},
		{doEvict, 0, 0},
		{doPin, 1, 0}, {doPut, 1, 3},
		{doPin, 0, 0}, // 2 leaves
		{doUnpin, 1, 0},
		{doGet, 2, 0}, // 1 leaves
		{doAppend, 1, 0},
		{doPut, 2, 3},
		{doFlush, 2, 0},
		{doAppend, 1, 0},
		{doPut, 2, 1}, {doPut, 0, 2},
	}
}

// TestEveryCrash: at each changing call of the script, with every choice of what is lost.
func TestEveryCrash(t *testing.T) {
	shape := api.Shape{Pages: 3, Log: 9, Frames: 2}
	image := make([]byte, 512*(5+2*shape.Pages+shape.Log))
	plain := paired(t, image, shape)
	newHistory(shape.Pages).play(plain, all())
	steps := plain.disk.Calls()
	if steps != 71 || t.Failed() {
		t.Fatalf("the script makes %d changing calls, want 71", steps)
	}
	for n := 1; n <= steps; n++ {
		for _, loss := range losses() {
			w, h := paired(t, image, shape), newHistory(shape.Pages)
			w.arm(n, loss)
			h.play(w, all())
			if !w.disk.Down() {
				t.Fatalf("it has not given up at call %d", n)
			}
			wantOldOrNew(t, w.disk.Image(), shape, h)
		}
	}
}

// TestCrashBetweenCalls: at every moment, not only while something is written.
func TestCrashBetweenCalls(t *testing.T) {
	shape := api.Shape{Pages: 3, Log: 9, Frames: 2}
	for n := range len(all()) + 1 {
		for _, loss := range losses() {
			w, h := paired(t, make([]byte, 512*(5+2*shape.Pages+shape.Log)), shape), newHistory(shape.Pages)
			h.play(w, all()[:n])
			w.disk.Crash(loss)
			wantOldOrNew(t, w.disk.Image(), shape, h)
		}
	}
}

// TestCrashOnCrash: drawn scripts, one pool behind another on one disk; what is found goes on.
func TestCrashOnCrash(t *testing.T) {
	r := drawn()
	for range 60 {
		shape := api.Shape{Pages: 2 + r.IntN(6), Log: 60, Frames: 2 + r.IntN(3)}
		image := make([]byte, 512*(5+2*shape.Pages+shape.Log))
		h := newHistory(shape.Pages)
		for range 6 {
			w := paired(t, image, shape)
			w.arm(1+r.IntN(40), drawnLoss(r))
			var script []step
			for range 120 {
				script = append(script, drawnStep(r, shape))
			}
			h.play(w, script)
			if !w.disk.Down() {
				w.disk.Crash(drawnLoss(r))
			}
			wantOldOrNew(t, w.disk.Image(), shape, h)
			image = h.found(t, w.disk.Image())
		}
	}
}

// found: the image with the twin finished; from there on each page's past begins with what it is now.
func (h history) found(t *testing.T, image []byte) []byte {
	t.Helper()
	d, _ := sectors.Load(image)
	if _, err := twin.Finish(d, 2); err != nil {
		t.Fatal(err)
	}
	for n, p := range h {
		*p = past{states: []page.Page{homed(t, d, n)}}
	}
	return d.Image()
}
