package pool_test

import (
	"bytes"
	"math/rand/v2"
	"slices"
	"testing"

	"quota/api"
	"quota/log"
	"quota/page"
	"quota/sectors"
	"quota/twin"
)

// entry: a held page, as the chapter has it.
type entry struct {
	state       page.Page
	pins, since int
}

// model: the chapter's words over a disk and a log of its own; the held pages in the order of their last use.
type model struct {
	disk  *sectors.Device
	log   *log.Log
	shape api.Shape
	held  []*entry
	ended bool
}

func (m *model) end() api.Errno {
	m.ended, m.held = true, nil
	return api.ErrDown
}

func (m *model) index(n int) int {
	return slices.IndexFunc(m.held, func(x *entry) bool { return x.state.Number == n })
}

func (m *model) use(i int) *entry {
	x := m.held[i]
	m.held = append(slices.Delete(m.held, i, i+1), x)
	return x
}

// ahead: what every call asks first.
func (m *model) ahead(n int) api.Errno {
	switch {
	case m.ended:
		return api.ErrDown
	case n < 0 || n >= m.shape.Pages:
		return api.ErrPlace
	}
	return api.OK
}

func (m *model) write(x *entry) api.Errno {
	if x.since == 0 {
		return api.OK
	}
	b, _ := page.Encode(x.state)
	if m.log.Force(x.state.LSN) != nil || twin.Write(m.disk, 2, 5+2*x.state.Number, b) != nil {
		return m.end()
	}
	x.since = 0
	return api.OK
}

func (m *model) leave(i int) api.Errno {
	if e := m.write(m.held[i]); e != api.OK {
		return e
	}
	m.held = slices.Delete(m.held, i, i+1)
	return api.OK
}

func (m *model) get(n int) (*entry, api.Errno) {
	if e := m.ahead(n); e != api.OK {
		return nil, e
	}
	if i := m.index(n); i >= 0 {
		return m.use(i), api.OK
	}
	if len(m.held) == m.shape.Frames {
		i := slices.IndexFunc(m.held, func(x *entry) bool { return x.pins == 0 })
		if i < 0 {
			return nil, api.ErrFull
		}
		if e := m.leave(i); e != api.OK {
			return nil, e
		}
	}
	b, err := twin.Read(m.disk, 5+2*n)
	if err != nil {
		return nil, m.end()
	}
	x, e := page.Decode(b, n)
	if e != api.OK {
		return nil, e
	}
	m.held = append(m.held, &entry{state: x})
	return m.held[len(m.held)-1], api.OK
}

func (m *model) put(x page.Page) api.Errno {
	if e := m.ahead(x.Number); e != api.OK {
		return e
	}
	if _, e := page.Encode(x); e != api.OK {
		return e
	}
	i := m.index(x.Number)
	switch {
	case i < 0:
		return api.ErrAbsent
	case x.LSN <= m.held[i].state.LSN || x.LSN > m.log.Last():
		return api.ErrPlace
	}
	y := m.use(i)
	y.state = x
	if y.since == 0 {
		y.since = x.LSN
	}
	return api.OK
}

func (m *model) unpin(n int) api.Errno {
	if e := m.ahead(n); e != api.OK {
		return e
	}
	i := m.index(n)
	if i < 0 || m.held[i].pins == 0 {
		return api.ErrAbsent
	}
	m.held[i].pins--
	return api.OK
}

func (m *model) evict(n int) api.Errno {
	if e := m.ahead(n); e != api.OK {
		return e
	}
	i := m.index(n)
	switch {
	case i < 0:
		return api.ErrAbsent
	case m.held[i].pins > 0:
		return api.ErrPinned
	}
	return m.leave(i)
}

func (m *model) flush(n int) api.Errno {
	if e := m.ahead(n); e != api.OK {
		return e
	}
	i := m.index(n)
	if i < 0 {
		return api.ErrAbsent
	}
	return m.write(m.held[i])
}

func (m *model) tells() (held []int, dirty []api.Dirty) {
	for n := range m.shape.Pages {
		if i := m.index(n); i >= 0 {
			held = append(held, n)
			if since := m.held[i].since; since > 0 {
				dirty = append(dirty, api.Dirty{Page: n, Since: since})
			}
		}
	}
	return held, dirty
}

// The kinds of what a script does.
const (
	doGet = iota
	doPut
	doPin
	doUnpin
	doEvict
	doFlush
	doAppend // so many records, the page's number
	doForce  // up to a record, the page's number
)

// step: of a script. Of a Put the LSN is told by how far it is above the page's.
type step struct{ kind, n, above int }

// pair: a store and a model of it, on disks that are alike.
type pair struct {
	*store
	model *model
}

func paired(t *testing.T, image []byte, shape api.Shape) *pair {
	t.Helper()
	two := func() *sectors.Device {
		d, e := sectors.Load(image)
		if e != api.OK {
			t.Fatalf("Load: %d", e)
		}
		return d
	}
	d := two()
	m := &model{disk: d, log: opened(t, d, shape), shape: shape}
	return &pair{store: over(t, two(), shape, 0, 0), model: m}
}

func (w *pair) arm(step int, loss api.Loss) {
	w.disk.Arm(step, loss)
	w.model.disk.Arm(step, loss)
}

// next: page n as the step's Put has it.
func (w *pair) next(s step) page.Page {
	was := 0
	if i := w.model.index(s.n); i >= 0 {
		was = w.model.held[i].state.LSN
	}
	return at(s.n, max(was+s.above, 0))
}

// play: one step of both; all that they tell is the same, and so is what the disks have.
func (w *pair) play(s step) api.Errno {
	w.t.Helper()
	e := w.do(s)
	held, dirty := w.model.tells()
	w.tells("P9.7", held, dirty...)
	if w.disk.Calls() != w.model.disk.Calls() || w.disk.Down() != w.model.disk.Down() {
		w.t.Fatalf("P9.1: behind %v: %d changing calls, want %d", s, w.disk.Calls(), w.model.disk.Calls())
	}
	if !bytes.Equal(w.disk.Image(), w.model.disk.Image()) || len(w.disk.Cache()) != len(w.model.disk.Cache()) {
		w.t.Fatalf("P9.1: behind %v: the disk has other bytes", s)
	}
	if w.log.Forced() != w.model.log.Forced() {
		w.t.Fatalf("P9.1: behind %v: forced %d, want %d", s, w.log.Forced(), w.model.log.Forced())
	}
	return e
}

func (w *pair) do(s step) (e api.Errno) {
	w.t.Helper()
	switch s.kind {
	case doGet:
		var x *entry
		if x, e = w.model.get(s.n); e == api.OK {
			w.got("P9.3", x.state)
		} else {
			w.notGot("P9.3", s.n, e)
		}
	case doPut:
		x := w.next(s)
		e = w.model.put(x)
		w.put("P9.4", x, e)
	case doPin:
		var x *entry
		if x, e = w.model.get(s.n); e == api.OK {
			x.pins++
		}
		w.pin("P9.5", s.n, e)
	case doUnpin:
		e = w.model.unpin(s.n)
		w.unpin("P9.5", s.n, e)
	case doEvict:
		e = w.model.evict(s.n)
		w.evict("P9.6", s.n, e)
	case doFlush:
		e = w.model.flush(s.n)
		w.flush("P9.6", s.n, e)
	case doAppend:
		for range s.n {
			r := api.Record{Kind: api.Begin, Tx: w.log.Last() + 1}
			w.log.Append(r)
			w.model.log.Append(r)
		}
	case doForce:
		w.log.Force(s.n)
		w.model.log.Force(s.n)
	}
	return e
}

// drawnStep: mostly of a few pages, so that they meet, and now and then of one that is none.
func drawnStep(r *rand.Rand, shape api.Shape) step {
	kinds := []int{doGet, doGet, doGet, doPut, doPut, doPut, doPin, doUnpin, doUnpin, doEvict, doFlush, doAppend, doForce}
	s := step{kind: kinds[r.IntN(len(kinds))], n: r.IntN(shape.Pages), above: 1 + r.IntN(3)}
	switch r.IntN(20) {
	case 0:
		s.n = []int{-1, shape.Pages, 1 << 40}[r.IntN(3)]
	case 1:
		s.above = r.IntN(60) - 30
	}
	switch s.kind {
	case doAppend:
		s.n = r.IntN(4)
	case doForce:
		s.n = r.IntN(shape.Log)
	}
	return s
}

func drawnLoss(r *rand.Rand) api.Loss {
	return api.Loss{Keep: []uint64{r.Uint64()}, Torn: r.IntN(6) - 1, Offset: r.IntN(520) - 4}
}

// TestAgainstTheModel: long scripts, for every number of frames.
func TestAgainstTheModel(t *testing.T) {
	r := drawn()
	for frames := 2; frames <= 16; frames++ {
		for range 6 {
			shape := api.Shape{Pages: 2 + r.IntN(2*frames), Log: 60, Frames: frames}
			w := paired(t, make([]byte, 512*(5+2*shape.Pages+shape.Log)), shape)
			for range 250 {
				w.play(drawnStep(r, shape))
			}
		}
	}
}

// TestAgainstTheModelWhereSomeIsSpoilt: pages that can't be read make others leave all the same.
func TestAgainstTheModelWhereSomeIsSpoilt(t *testing.T) {
	r := drawn()
	shape := api.Shape{Pages: 7, Log: 40, Frames: 3}
	for range 60 {
		image := make([]byte, 512*(5+2*shape.Pages+shape.Log))
		for n := range shape.Pages {
			if r.IntN(3) == 0 {
				image[512*(5+2*n)+r.IntN(1024)] = byte(1 + r.IntN(255))
			}
		}
		w := paired(t, image, shape)
		for range 120 {
			w.play(drawnStep(r, shape))
		}
	}
}

// TestAgainstTheModelWithCrashes: and what comes behind them, the disk down or up again.
func TestAgainstTheModelWithCrashes(t *testing.T) {
	r := drawn()
	shape := api.Shape{Pages: 5, Log: 40, Frames: 2}
	for range 400 {
		w := paired(t, make([]byte, 512*(5+2*shape.Pages+shape.Log)), shape)
		w.arm(1+r.IntN(60), drawnLoss(r))
		for range 80 {
			w.play(drawnStep(r, shape))
			if w.disk.Down() && r.IntN(4) == 0 {
				w.disk.Up()
				w.model.disk.Up()
			}
		}
	}
}

// TestNothingIsLost: the last state that was put, or what the disk had, whatever leaves.
func TestNothingIsLost(t *testing.T) {
	r := drawn()
	for frames := 2; frames <= 16; frames++ {
		shape := api.Shape{Pages: 24, Log: 80, Frames: frames}
		last, bytes := map[int]page.Page{}, map[int][]byte{}
		for n := range shape.Pages {
			last[n] = at(n, n%3)
			bytes[n] = encoded(t, last[n])
		}
		s := over(t, laid(t, shape, bytes), shape, 3, 3)
		for range 600 {
			n := r.IntN(shape.Pages)
			switch r.IntN(8) {
			case 0:
				s.Evict(n)
			case 1:
				s.Flush(n)
			case 2, 3:
				if s.log.Free() > 0 {
					appendRecords(t, s.log, 1)
				}
			case 4, 5:
				if x := at(n, s.log.Last()); s.Put(x) == nil {
					last[n] = x
				}
			}
			n = r.IntN(shape.Pages)
			s.got("P9.9", last[n])
		}
		for n := range shape.Pages {
			s.got("P9.9: at the end", last[n])
		}
	}
}
