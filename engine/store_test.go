package engine_test

import (
	"errors"
	"math"
	"math/rand/v2"
	"strconv"
	"strings"
	"testing"

	"quota/api"
	"quota/engine"
	"quota/sectors"
)

const (
	least = math.MinInt64
	most  = math.MaxInt64
)

// small: the examples' shape.
var small = api.Shape{Pages: 4, Log: 30, Frames: 2}

func drawn(run int) *rand.Rand { return rand.New(rand.NewPCG(20, uint64(run))) }

func shaped(pages, log, frames int) api.Shape {
	return api.Shape{Pages: pages, Log: log, Frames: frames}
}

func need(s api.Shape) int { return 5 + 2*s.Pages + s.Log }

func between(lo, hi int64) api.Range { return api.Range{Lo: lo, Hi: hi} }

func counter(id, group int, lo, hi, value int64) api.Counter {
	return api.Counter{ID: id, Group: group, Bounds: between(lo, hi), Value: value}
}

func slot(page, index int) api.Slot { return api.Slot{Page: page, Index: index} }

// The steps of scripts.

func begin() api.Step { return api.Step{Kind: api.StepBegin} }

func create(id, group int, lo, hi, value int64) api.Step {
	return api.Step{Kind: api.StepCreate, Counter: id, Group: group, A: lo, B: hi, C: value}
}

func add(tx, id int, delta int64) api.Step {
	return api.Step{Kind: api.StepAdd, Tx: tx, Counter: id, A: delta}
}

func read(id int) api.Step { return api.Step{Kind: api.StepRead, Counter: id} }

func sum(group int) api.Step { return api.Step{Kind: api.StepGroup, Group: group} }

func commit(tx int) api.Step { return api.Step{Kind: api.StepCommit, Tx: tx} }

func abort(tx int) api.Step { return api.Step{Kind: api.StepAbort, Tx: tx} }

func checkpoint() api.Step { return api.Step{Kind: api.StepCheckpoint} }

func evict(page int) api.Step { return api.Step{Kind: api.StepEvict, Counter: page} }

func flush(page int) api.Step { return api.Step{Kind: api.StepFlush, Counter: page} }

func list() api.Step { return api.Step{Kind: api.StepList} }

func counterOf(s api.Step) api.Counter { return counter(s.Counter, s.Group, s.A, s.B, s.C) }

// text: counters as an answer tells them.
func text(all []api.Counter) string {
	var out []string
	for _, c := range all {
		out = append(out, strconv.Itoa(c.ID)+":"+strconv.FormatInt(c.Value, 10))
	}
	return strings.Join(out, " ")
}

// store: a disk, and the engine over it.
type store struct {
	*engine.Engine
	t    *testing.T
	disk *sectors.Device
}

func device(t *testing.T, n int) *sectors.Device {
	t.Helper()
	d, e := sectors.New(n)
	if e != api.OK {
		t.Fatalf("no disk: %d", e)
	}
	return d
}

func loaded(t *testing.T, image []byte) *sectors.Device {
	t.Helper()
	d, e := sectors.Load(image)
	if e != api.OK {
		t.Fatalf("no disk: %d", e)
	}
	return d
}

// made: a new store.
func made(t *testing.T, s api.Shape) *store {
	t.Helper()
	d := device(t, need(s))
	e, err := engine.Format(d, s)
	if err != nil || e == nil {
		t.Fatalf("Format: %v", err)
	}
	return &store{e, t, d}
}

// opened: what a disk has.
func opened(t *testing.T, d *sectors.Device) *store {
	t.Helper()
	e, err := engine.Open(d)
	if err != nil || e == nil {
		t.Fatalf("Open: %v", err)
	}
	return &store{e, t, d}
}

// copied: what a crash that loses all that may be lost would leave, opened.
func (w *store) copied() *store {
	w.t.Helper()
	return opened(w.t, loaded(w.t, w.disk.Image()))
}

// number: of the error of a call; the form of a fault is looked at too.
func number(t *testing.T, call string, err error) api.Errno {
	t.Helper()
	if err == nil {
		return api.OK
	}
	var f *api.Fault
	if !errors.As(err, &f) || err != error(f) || f.Call != call || f.At != 0 || api.Code(err) == api.OK || api.Code(err) == api.ErrOther {
		t.Errorf("P20.1: %s answers %v, which is no fault of its own", call, err)
	}
	return api.Code(err)
}

// told: an answer; beside an error everything must be zero.
func (w *store) told(call string, err error, a, b int64, words string) api.Answer {
	w.t.Helper()
	x := api.Answer{Code: number(w.t, call, err), A: a, B: b, Text: words}
	if x.Code != api.OK && x != (api.Answer{Code: x.Code}) {
		w.t.Errorf("rule 1: %s answers %v beside its error", call, x)
	}
	return x
}

// play: a step, and its answer; an Add is answered with what Read tells behind it.
func (w *store) play(s api.Step) api.Answer {
	w.t.Helper()
	switch s.Kind {
	case api.StepBegin:
		n, err := w.Begin()
		return w.told("Begin", err, int64(n), 0, "")
	case api.StepCreate:
		return w.told("Create", w.Create(counterOf(s)), 0, 0, "")
	case api.StepAdd:
		if err := w.Add(s.Tx, s.Counter, s.A); err != nil {
			return w.told("Add", err, 0, 0, "")
		}
		return w.play(read(s.Counter))
	case api.StepRead:
		r, err := w.Read(s.Counter)
		return w.told("Read", err, r.Lo, r.Hi, "")
	case api.StepGroup:
		n, err := w.Sum(s.Group)
		return w.told("Sum", err, n, 0, "")
	case api.StepCommit:
		return w.told("Commit", w.Commit(s.Tx), 0, 0, "")
	case api.StepAbort:
		return w.told("Abort", w.Abort(s.Tx), 0, 0, "")
	case api.StepCheckpoint:
		return w.told("Checkpoint", w.Checkpoint(), 0, 0, "")
	case api.StepEvict:
		return w.told("Evict", w.Evict(s.Counter), 0, 0, "")
	case api.StepFlush:
		return w.told("Flush", w.Flush(s.Counter), 0, 0, "")
	case api.StepList:
		all, err := w.Counters()
		return w.told("Counters", err, int64(len(all)), 0, text(all))
	}
	w.t.Fatalf("no step: %v", s)
	return api.Answer{}
}

// want: the step's answer, in the form of a transcript's line.
func (w *store) want(s api.Step, line string) {
	w.t.Helper()
	x := w.play(s)
	got := strconv.Itoa(int(x.Code)) + " " + strconv.FormatInt(x.A, 10) + " " + strconv.FormatInt(x.B, 10)
	if x.Text != "" {
		got += " " + x.Text
	}
	if got != line {
		w.t.Errorf("P20.1: %v = %q, want %q", s, got, line)
	}
}

// run: steps that must be taken.
func (w *store) run(steps ...api.Step) {
	w.t.Helper()
	for _, s := range steps {
		if x := w.play(s); x.Code != api.OK {
			w.t.Fatalf("%v: error %d", s, x.Code)
		}
	}
}

// refused: the step's error, and that it has changed nothing that is told.
func (w *store) refused(s api.Step, e api.Errno) {
	w.t.Helper()
	before := w.tells()
	if x := w.play(s); x.Code != e {
		w.t.Errorf("P20.1: %v = error %d, want %d", s, x.Code, e)
	}
	if after := w.tells(); after != before {
		w.t.Errorf("rule 1: %v was refused and has made\n%s of\n%s", s, after, before)
	}
}

// ended: rule 6, of every call.
func (w *store) ended() {
	w.t.Helper()
	for _, s := range []api.Step{begin(), create(1, 1, 0, 1, 0), create(0, 0, 1, 0, 2), add(1, 1, 0), add(0, 0, 0), read(1), sum(1), commit(1), abort(1), checkpoint(), evict(0), evict(-1), flush(0), flush(-1), list()} {
		if x := w.play(s); x.Code != api.ErrDown {
			w.t.Fatalf("rule 6: of an ended engine %v = %v", s, x)
		}
	}
	live, e1 := w.Live()
	held, e2 := w.Holdings(1)
	free, promised, e3 := w.Free()
	if len(live)+len(held) > 0 || free != 0 || promised != 0 {
		w.t.Fatalf("rule 6: an ended engine tells %v, %v, %d, %d", live, held, free, promised)
	}
	if number(w.t, "Live", e1) != api.ErrDown || number(w.t, "Holdings", e2) != api.ErrDown || number(w.t, "Free", e3) != api.ErrDown {
		w.t.Fatalf("rule 6: an ended engine answers %v, %v, %v", e1, e2, e3)
	}
}

// tells: all that an engine tells, but for the room.
func (w *store) tells() string {
	w.t.Helper()
	var out []string
	note := func(words ...any) {
		for _, x := range words {
			switch v := x.(type) {
			case int:
				out = append(out, strconv.Itoa(v))
			case int64:
				out = append(out, strconv.FormatInt(v, 10))
			case error:
				w.t.Fatal(v)
			}
		}
		out = append(out, ";")
	}
	all, err := w.Counters()
	note(err)
	for _, c := range all {
		r, err := w.Read(c.ID)
		n, err2 := w.Sum(c.Group)
		note(c.ID, c.Group, c.Bounds.Lo, c.Bounds.Hi, c.Value, r.Lo, r.Hi, n, err, err2)
	}
	live, err := w.Live()
	note(err)
	for _, tx := range live {
		held, err := w.Holdings(tx)
		note(tx, len(held), err)
		for _, h := range held {
			note(h.Tx, h.Counter, h.Delta)
		}
	}
	free, promised, err := w.Free()
	note(free, promised, err)
	return strings.Join(out, " ")
}
