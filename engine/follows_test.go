package engine_test

import (
	"math/big"
	"math/rand/v2"
	"slices"
	"testing"

	"quota/api"
)

// roomy: a shape in which no script of these tests finds the log full.
func roomy(rnd *rand.Rand) api.Shape { return shaped(2+rnd.IntN(5), 1000, 2+rnd.IntN(4)) }

// script: drawn steps, and a store that has been through them; none may be answered with ErrFull. The model only tells which numbers make sense.
func script(t *testing.T, rnd *rand.Rand, sc scale, count int) []api.Step {
	t.Helper()
	m := newModel(shaped(6, 2000, 2))
	var out []api.Step
	for range count {
		s := sc.draw(rnd, m)
		if m.play(s).Code == api.ErrFull {
			t.Fatal("a poor draw: the log is full")
		}
		out = append(out, s)
	}
	return out
}

func isCare(s api.Step) bool {
	return slices.Contains([]int{api.StepCheckpoint, api.StepEvict, api.StepFlush}, s.Kind)
}

func without(steps []api.Step, out func(k int, s api.Step) bool) []api.Step {
	var left []api.Step
	for k, s := range steps {
		if !out(k, s) {
			left = append(left, s)
		}
	}
	return left
}

// state: what an engine tells of counters and of who holds what.
type state struct {
	counters []api.Counter
	nets     map[int][]int64 // of each counter
}

func (w *store) state() state {
	w.t.Helper()
	all, err := w.Counters()
	live, err2 := w.Live()
	if err != nil || err2 != nil {
		w.t.Fatal(err, err2)
	}
	x := state{all, map[int][]int64{}}
	for _, tx := range live {
		held, err := w.Holdings(tx)
		if err != nil {
			w.t.Fatal(err)
		}
		for _, h := range held {
			x.nets[h.Counter] = append(x.nets[h.Counter], h.Delta)
		}
	}
	return x
}

// outcomes: of a counter, with these nets in the place of those that it has; as many as there are sets of transactions.
func outcomes(c api.Counter, had, nets []int64) []*big.Int {
	settled := whole(c.Value)
	for _, n := range had {
		settled.Sub(settled, whole(n))
	}
	var out []*big.Int
	for set := range 1 << len(nets) {
		x := new(big.Int).Set(settled)
		for k, n := range nets {
			if set>>k&1 == 1 {
				x.Add(x, whole(n))
			}
		}
		out = append(out, x)
	}
	return out
}

// wantBounds: P4, of every outcome of every counter; and Read tells the least and the greatest.
func (w *store) wantBounds() {
	w.t.Helper()
	x := w.state()
	for _, c := range x.counters {
		all := outcomes(c, x.nets[c.ID], x.nets[c.ID])
		low, high := slices.MinFunc(all, (*big.Int).Cmp), slices.MaxFunc(all, (*big.Int).Cmp)
		if !inside(c.Bounds, low, high) {
			w.t.Fatalf("P4: counter %v may come to %v to %v", c, low, high)
		}
		if got := w.play(read(c.ID)); got != (api.Answer{A: low.Int64(), B: high.Int64()}) {
			w.t.Fatalf("P20.1: Read(%d) = %v, want %v to %v", c.ID, got, low, high)
		}
	}
}

// wantReason: P4, of an add that was refused with ErrBounds: some outcome would have broken them.
func (w *store) wantReason(s api.Step) {
	w.t.Helper()
	x := w.state()
	k := slices.IndexFunc(x.counters, func(c api.Counter) bool { return c.ID == s.Counter })
	c := x.counters[k]
	held, err := w.Holdings(s.Tx)
	if err != nil {
		w.t.Fatal(err)
	}
	net := int64(0)
	nets := slices.Clone(x.nets[c.ID])
	if at := slices.IndexFunc(held, func(h api.Holding) bool { return h.Counter == c.ID }); at >= 0 {
		net = held[at].Delta
		nets = slices.Delete(nets, slices.Index(nets, net), slices.Index(nets, net)+1)
	}
	for _, o := range outcomes(c, x.nets[c.ID], nets) {
		o = plus(o, plus(whole(net), whole(s.A)))
		if !inside(c.Bounds, o, o) {
			return
		}
	}
	w.t.Fatalf("P4: %v was refused, and no outcome of %v with %v breaks the bounds", s, c, x.nets[c.ID])
}

// wantSums: P5.
func (w *store) wantSums() {
	w.t.Helper()
	sums := map[int]*big.Int{}
	for _, c := range w.state().counters {
		if sums[c.Group] == nil {
			sums[c.Group] = whole(0)
		}
		sums[c.Group].Add(sums[c.Group], whole(c.Value))
	}
	for g, want := range sums {
		if got, err := w.Sum(g); err != nil || !want.IsInt64() || got != want.Int64() {
			w.t.Fatalf("P5: Sum(%d) = %d, %v, want %v", g, got, err, want)
		}
	}
}

// TestBoundsAndSums: P4 and P5, in every state of drawn scripts.
func TestBoundsAndSums(t *testing.T) {
	t.Parallel()
	reasons := 0
	for run := range 60 {
		rnd := drawn(2000 + run)
		sc := scale(rnd.IntN(int(scales)))
		w := made(t, roomy(rnd))
		for _, s := range script(t, rnd, sc, 80) {
			if x := w.play(s); x.Code == api.ErrBounds && s.Kind == api.StepAdd {
				w.wantReason(s)
				reasons++
			}
			w.wantBounds()
			w.wantSums()
		}
	}
	if reasons < 300 {
		t.Errorf("a poor draw: %d refusals", reasons)
	}
}

// TestSerial: P6: the committed ones in the order of their commits, with the bounds; in any other order without them.
func TestSerial(t *testing.T) {
	t.Parallel()
	commits := 0
	for run := range 150 {
		rnd := drawn(3000 + run)
		w := made(t, roomy(rnd))
		bounds, values := map[int]api.Range{}, map[int]*big.Int{}
		var order [][]api.Holding
		for _, s := range script(t, rnd, scale(rnd.IntN(int(scales))), 120) {
			held, _ := w.Holdings(s.Tx)
			x := w.play(s)
			switch {
			case x.Code == api.OK && s.Kind == api.StepCreate:
				bounds[s.Counter], values[s.Counter] = between(s.A, s.B), whole(s.C)
			case x.Code == api.OK && s.Kind == api.StepCommit:
				order = append(order, held)
			}
		}
		live, _ := w.Live()
		for _, tx := range live {
			w.run(abort(tx))
		}
		commits += len(order)
		wantOrder(w, values, order, bounds)
		rnd.Shuffle(len(order), func(a, b int) { order[a], order[b] = order[b], order[a] })
		wantOrder(w, values, order, nil)
	}
	if commits < 500 {
		t.Errorf("a poor draw: %d commits", commits)
	}
}

// wantOrder: from the first values to those that the engine has by now.
func wantOrder(w *store, first map[int]*big.Int, order [][]api.Holding, bounds map[int]api.Range) {
	w.t.Helper()
	values := map[int]*big.Int{}
	for id, v := range first {
		values[id] = v
	}
	for _, held := range order {
		for _, h := range held {
			v := plus(values[h.Counter], whole(h.Delta))
			if b, asked := bounds[h.Counter]; asked && !inside(b, v, v) {
				w.t.Fatalf("P6: counter %d comes to %v on its way", h.Counter, v)
			}
			values[h.Counter] = v
		}
	}
	for _, c := range w.state().counters {
		if values[c.ID].Cmp(whole(c.Value)) != 0 {
			w.t.Fatalf("P6: counter %v, and one behind the other they lead to %v", c, values[c.ID])
		}
	}
}

// TestAsIfNever: P7: without what was refused, and without the adds of those that were aborted.
func TestAsIfNever(t *testing.T) {
	t.Parallel()
	less := 0
	for run := range 200 {
		rnd := drawn(4000 + run)
		shape, sc := roomy(rnd), scale(rnd.IntN(int(scales)))
		all := without(script(t, rnd, sc, 150), func(_ int, s api.Step) bool {
			return s.Kind == api.StepRead || s.Kind == api.StepGroup || s.Kind == api.StepList
		})
		a, b := made(t, shape), made(t, shape)
		answers := make([]api.Answer, len(all))
		aborted := map[int]bool{}
		for k, s := range all {
			answers[k] = a.play(s)
			if s.Kind == api.StepAbort && answers[k].Code == api.OK {
				aborted[s.Tx] = true
			}
		}
		never := func(k int, s api.Step) bool {
			adds := s.Kind == api.StepAdd
			return (adds || s.Kind == api.StepCreate) && answers[k].Code != api.OK || adds && aborted[s.Tx]
		}
		for k, s := range all {
			if never(k, s) {
				less++
				continue
			}
			x := b.play(s)
			if s.Kind != api.StepEvict && s.Kind != api.StepFlush && (x.Code != answers[k].Code || s.Kind == api.StepBegin && x != answers[k]) {
				t.Fatalf("P7: %v = %v, and with what was never done %v", s, x, answers[k])
			}
		}
		if x, y := a.state(), b.state(); !slices.Equal(x.counters, y.counters) {
			t.Fatalf("P7: the values are %v, and with what was never done %v", y.counters, x.counters)
		}
	}
	if less < 2000 {
		t.Errorf("a poor draw: %d steps were left out", less)
	}
}

// TestCare: P8: checkpoints, evictions and flushes change no other answer, however many frames there are.
func TestCare(t *testing.T) {
	t.Parallel()
	for run := range 150 {
		rnd := drawn(5000 + run)
		shape, sc := roomy(rnd), scale(rnd.IntN(int(scales)))
		plain := without(script(t, rnd, sc, 150), func(_ int, s api.Step) bool { return isCare(s) })
		a := made(t, shape)
		shape.Frames = 2 + rnd.IntN(15)
		b := made(t, shape)
		for _, s := range plain {
			for range rnd.IntN(3) {
				b.play([]api.Step{checkpoint(), evict(rnd.IntN(shape.Pages)), flush(rnd.IntN(shape.Pages))}[rnd.IntN(3)])
			}
			if x, y := a.play(s), b.play(s); x != y {
				t.Fatalf("P8: %v = %v, and with care %v", s, x, y)
			}
		}
		x, y := a.state(), b.state()
		if !slices.Equal(x.counters, y.counters) {
			t.Fatalf("P8: the counters are %v, and with care %v", x.counters, y.counters)
		}
	}
}

// brim: drawn steps, up to a log that has no room for anything but what is promised.
func brim(t *testing.T, rnd *rand.Rand) *pair {
	t.Helper()
	p := filled(t, shaped(3, 50+rnd.IntN(60), 2), 34, 2)
	for p.model.free() > p.model.promised() {
		switch n := rnd.IntN(12); {
		case n < 2:
			p.step(begin())
		case n < 3:
			p.step(checkpoint())
		default:
			p.step(add(p.model.drawTx(rnd), p.model.drawID(rnd), near.number(rnd)))
		}
	}
	for _, s := range []api.Step{begin(), create(150, 1, 0, 9, 0), checkpoint()} {
		if x := p.play(s); x.Code != api.ErrFull {
			t.Fatalf("P20.3: %v = %v of a log that is full", s, x)
		}
	}
	return p
}

// TestEndsNeverFail: P20.4: each transaction is ended one way or the other, or by a crash, with no sector to spare.
func TestEndsNeverFail(t *testing.T) {
	t.Parallel()
	for run := range 150 {
		rnd := drawn(6000 + run)
		p := brim(t, rnd)
		if run%2 == 0 {
			p.arm(1+rnd.IntN(30), drawLoss(rnd))
		}
		ends := slices.Clone(p.model.live)
		rnd.Shuffle(len(ends), func(a, b int) { ends[a], ends[b] = ends[b], ends[a] })
		for _, tx := range ends {
			s := []api.Step{commit(tx), abort(tx)}[rnd.IntN(2)]
			if !p.step(s) {
				p.back(s, drawTraps(rnd)...)
				p.twice()
				break
			}
		}
		if free, promised, err := p.Free(); promised != 0 || free < 0 || err != nil {
			t.Fatalf("P20.4: behind all ends Free = %d, %d, %v", free, promised, err)
		}
	}
}

// TestFullToTheLast: all are aborted: then nothing is left of what was promised, and it was not too much.
func TestFullToTheLast(t *testing.T) {
	t.Parallel()
	for run := range 30 {
		p := brim(t, drawn(7000+run))
		for _, tx := range slices.Clone(p.model.live) {
			p.step(abort(tx))
		}
		p.wantFree(0, 0)
		p.rows(row{begin(), "6 0 0"}, row{checkpoint(), "6 0 0"}, row{create(150, 1, 0, 9, 0), "6 0 0"})
		p.crash(api.Loss{})
		p.back(api.Step{})
	}
}
