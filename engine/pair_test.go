package engine_test

import (
	"bytes"
	"math/rand/v2"
	"slices"
	"testing"

	"quota/api"
	"quota/engine"
	"quota/log"
	"quota/page"
	"quota/twin"
)

// pair: a store, the model that says what it must answer, and a hand that does to a disk of its own what must become of the store's.
type pair struct {
	*store
	model *model
	hand  *hand
	sure  int    // transactions below this number have a record that is forced
	calls [2]int // of both disks, when their images were held against each other last
}

// paired: a new store.
func paired(t *testing.T, s api.Shape) *pair {
	t.Helper()
	w := made(t, s)
	h := &hand{t: t, disk: loaded(t, w.disk.Image())}
	if err := h.reach(s); err != nil {
		t.Fatal(err)
	}
	return &pair{store: w, model: newModel(s), hand: h, sure: 1, calls: [2]int{w.disk.Calls(), h.disk.Calls()}}
}

// again: a pair over a copy of the disk, both restarted; nobody lives in the model.
func (p *pair) again(t *testing.T) *pair {
	t.Helper()
	q := p.crashed(t)
	if !q.boot(0, api.Loss{}) {
		t.Fatal("the disk was to run")
	}
	return q
}

// crashed: a pair over a copy of the disk that has no engine yet: all that was not durable is lost.
func (p *pair) crashed(t *testing.T) *pair {
	t.Helper()
	image := p.disk.Image()
	h := &hand{t: t, disk: loaded(t, image)}
	return &pair{store: &store{nil, t, loaded(t, image)}, model: p.model.copy(), hand: h, sure: p.sure}
}

// all: steps that are played up to the one within which the disk gives up; that one, and how many are left behind it.
func (p *pair) all(steps []api.Step) (within api.Step, left int) {
	p.t.Helper()
	for k, s := range steps {
		if !p.step(s) {
			return s, len(steps) - k - 1
		}
	}
	return api.Step{}, 0
}

// nth: the number of a filled store's counter, from 0 on: those of the pages lie between one another, and the least one stands in the second page.
func nth(k int) int { return 1 + (k*17+79)%101 }

// filled: with so many counters, in as many groups as are asked for.
func filled(t *testing.T, s api.Shape, counters, groups int) *pair {
	t.Helper()
	p := paired(t, s)
	for k := range counters {
		if p.step(create(nth(k), 1+k%groups, -100, 100, int64(k))); p.model.records != k+1 {
			t.Fatalf("no counter %d", nth(k))
		}
	}
	return p
}

// step: played by all three; false: the disk has given up within, and the model stands as it did ahead of the step.
func (p *pair) step(s api.Step) bool {
	p.t.Helper()
	ahead := p.model.copy()
	want := p.model.play(s)
	if want.Code == api.OK {
		if err := p.hand.play(s, ahead); err != nil {
			want = api.Answer{Code: api.Code(err)} // the model knows nothing of pages and of crashes
		}
	}
	if got := p.play(s); got != want {
		p.t.Fatalf("P2, P20.1: %v = %v, want %v", s, got, want)
	}
	p.sameDisks(s)
	if want.Code == api.ErrDown {
		p.model = ahead
		p.ended()
		return false
	}
	if want.Code == api.OK && slices.Contains([]int{api.StepCreate, api.StepCommit, api.StepCheckpoint}, s.Kind) {
		p.sure = p.model.next
	}
	return true
}

// sameDisks: each call of the layers below has come, in its turn, and no other that is to be seen.
func (p *pair) sameDisks(s api.Step) {
	p.t.Helper()
	a, b := p.disk, p.hand.disk
	now := [2]int{a.Calls(), b.Calls()}
	if now[0]-p.calls[0] != now[1]-p.calls[1] || a.Down() != b.Down() || len(a.Cache()) != len(b.Cache()) {
		p.t.Fatalf("DOC.md, The engine: %v makes %d changing calls of the disk, and %d by its words", s, now[0]-p.calls[0], now[1]-p.calls[1])
	}
	if now != p.calls && !bytes.Equal(a.Image(), b.Image()) {
		p.t.Fatalf("DOC.md, The engine: %v leaves another disk than its words do", s)
	}
	p.calls = now
}

func (p *pair) arm(step int, loss api.Loss) {
	p.t.Helper()
	if p.disk.Arm(step, loss) != api.OK || p.hand.disk.Arm(step, loss) != api.OK {
		p.t.Fatal("the disk was to be armed")
	}
}

func (p *pair) crash(loss api.Loss) {
	p.t.Helper()
	if p.disk.Crash(loss) != api.OK || p.hand.disk.Crash(loss) != api.OK {
		p.t.Fatal("the disk was to give up")
	}
}

// look: all that is told without a look at the disk, and the room.
func (p *pair) look() {
	p.t.Helper()
	live, err := p.Live()
	if err != nil || !slices.Equal(live, p.model.live) {
		p.t.Fatalf("P2: Live = %v, %v, want %v", live, err, p.model.live)
	}
	for tx := range p.model.next + 1 {
		want := p.model.holdings(tx)
		held, err := p.Holdings(tx)
		if e := number(p.t, "Holdings", err); !slices.Equal(held, want) || (e == api.OK) != p.model.lives(tx) || e != api.OK && e != api.ErrTx {
			p.t.Fatalf("P2: Holdings(%d) = %v, %v, want %v", tx, held, err, want)
		}
	}
	for _, c := range p.model.counters {
		if got, want := p.play(read(c.ID)), p.model.read(c.ID); got != want {
			p.t.Fatalf("P2: Read(%d) = %v, want %v", c.ID, got, want)
		}
	}
	if free, promised, err := p.Free(); free != p.model.free() || promised != p.model.promised() || err != nil {
		p.t.Fatalf("rule 10: Free = %d, %d, %v, want %d, %d", free, promised, err, p.model.free(), p.model.promised())
	}
}

// survey: and all that stands in pages.
func (p *pair) survey() {
	p.t.Helper()
	p.look()
	if !p.step(list()) {
		return
	}
	if all, err := p.Counters(); err != nil || !slices.Equal(all, p.model.stand()) {
		p.t.Fatalf("P2: Counters = %v, %v, want %v", all, err, p.model.stand())
	}
	if p.hand.counters() != nil {
		p.t.Fatal("the disk was to run")
	}
	for _, g := range p.model.groups() {
		if !p.step(sum(g)) {
			return
		}
	}
}

// boot: the disk is up, and armed if step is above 0; then both restart. Whether they have; if not, the disk is down again.
func (p *pair) boot(step int, loss api.Loss) bool {
	p.t.Helper()
	if p.disk.Up() != api.OK || p.hand.disk.Up() != api.OK {
		p.t.Fatal("the disk was to be up")
	}
	p.arm(step, loss)
	want := api.Code(p.hand.restart())
	e, err := engine.Open(p.disk)
	if number(p.t, "Open", err) != want || (e == nil) != (err != nil) {
		p.t.Fatalf("P3, P20.4: Open = %v, want error %d", err, want)
	}
	p.sameDisks(api.Step{Kind: api.StepBoot})
	p.store = &store{e, p.t, p.disk}
	return want == api.OK
}

// trap: at which of a restart's changing calls the disk gives up, and what it loses then.
type trap struct {
	step int
	loss api.Loss
}

// back: restarts, up to the first that answers an engine; what it has must be what the model lets it have, if the disk gave up within the step.
func (p *pair) back(within api.Step, traps ...trap) {
	p.t.Helper()
	p.wantLogFirst()
	up := false
	for _, x := range traps {
		if up = p.boot(x.step, x.loss); up {
			break
		}
		p.wantLogFirst()
	}
	if !up && !p.boot(0, api.Loss{}) {
		p.t.Fatal("P3: the disk runs, and Open answers no engine")
	}
	p.arm(0, api.Loss{})
	all, err := p.Counters()
	if err != nil || p.hand.counters() != nil {
		p.t.Fatalf("the disk was to run: %v", err)
	}
	p.model = p.chosen(within, all)
	p.renumber()
	p.survey()
}

// wantLogFirst: rule 9, of what a crash has left: no page there knows a record that the log there doesn't have.
func (p *pair) wantLogFirst() {
	p.t.Helper()
	d := loaded(p.t, p.disk.Image())
	if _, err := twin.Finish(d, 2); err != nil {
		p.t.Fatal(err)
	}
	s := p.model.shape
	l, err := log.Open(d, 5+2*s.Pages, s.Log)
	if err != nil {
		p.t.Fatal(err)
	}
	for n := range s.Pages {
		b, err := twin.Read(d, 5+2*n)
		if err != nil {
			p.t.Fatal(err)
		}
		if x, e := page.Decode(b, n); e != api.OK || x.LSN > l.Last() {
			p.t.Fatalf("rule 9: page %d is %v, %d, and the log's last record is %d", n, x, e, l.Last())
		}
	}
}

// twice: P20.5.
func (p *pair) twice() {
	p.t.Helper()
	first := 512 * (5 + 2*p.model.shape.Pages)
	before := p.disk.Image()[first:]
	if !p.boot(0, api.Loss{}) || !bytes.Equal(before, p.disk.Image()[first:]) {
		p.t.Fatal("P20.5: a second Open has changed the log's bytes")
	}
	p.survey()
}

// chosen: of what may be behind a crash that which is.
func (p *pair) chosen(within api.Step, all []api.Counter) *model {
	p.t.Helper()
	may := []*model{p.model.lost()}
	if other := p.model.copy(); within.Kind == api.StepCommit || within.Kind == api.StepCreate {
		if other.play(within).Code == api.OK {
			may = append(may, other.lost())
		}
	}
	for _, m := range may {
		if slices.Equal(m.stand(), all) {
			return m
		}
	}
	p.t.Fatalf("P3: given up within %v, the restart has %v, which is none of what may be: %v", within, all, may[0].stand())
	return nil
}

// renumber: how many records there are, and which number comes next, is told by the log; a number that was forced is not given again.
func (p *pair) renumber() {
	p.t.Helper()
	l, err := log.Open(loaded(p.t, p.disk.Image()), 5+2*p.model.shape.Pages, p.model.shape.Log)
	if err != nil {
		p.t.Fatal(err)
	}
	next := 1
	for lsn := 1; lsn <= l.Last(); lsn++ {
		if r, _ := l.Get(lsn); r.Kind == api.Begin {
			next = r.Tx + 1
		}
	}
	if next < p.sure || next > p.model.next {
		p.t.Fatalf("DOC.md, Words: the next transaction is %d, and must be %d to %d", next, p.sure, p.model.next)
	}
	p.model.records, p.model.next, p.sure = l.Last(), next, next
}

// scale: how far a script's numbers go.
type scale int

const (
	near scale = iota
	edge
	any64
	scales
)

func (s scale) number(rnd *rand.Rand) int64 {
	switch s {
	case near:
		return rnd.Int64N(13) - 6
	case edge:
		return []int64{least, least + 1, least / 2, least/2 + 1, -1, 0, 1, most / 2, most/2 + 1, most - 1, most}[rnd.IntN(11)]
	}
	return int64(rnd.Uint64()) >> rnd.IntN(64)
}

// wild: a number that is hardly ever a right one.
func wild(rnd *rand.Rand) int {
	return []int{0, -1, 1 << 20, 1<<20 + 1, 1 << 31, -1 << 31, 1<<32 + 1, least, most}[rnd.IntN(9)]
}

func (s scale) create(rnd *rand.Rand, m *model) api.Step {
	a, b := s.number(rnd), s.number(rnd)
	if s != near && rnd.IntN(3) > 0 {
		a, b = least, most
	}
	if rnd.IntN(15) > 0 {
		a, b = min(a, b), max(a, b)
	}
	c := s.number(rnd)
	if rnd.IntN(10) > 0 {
		c = min(max(c, a), b)
	}
	x := create(1+rnd.IntN(2*len(m.counters)+5), 1+rnd.IntN(3), a, b, c)
	switch rnd.IntN(40) {
	case 0:
		x.Counter = wild(rnd)
	case 1:
		x.Group = wild(rnd)
	}
	return x
}

// tx, id: mostly one that is there.
func (m *model) drawTx(rnd *rand.Rand) int {
	switch n := rnd.IntN(25); {
	case n == 0:
		return wild(rnd)
	case n < 3 || len(m.live) == 0:
		return rnd.IntN(m.next + 1)
	}
	return m.live[rnd.IntN(len(m.live))]
}

func (m *model) drawID(rnd *rand.Rand) int {
	switch n := rnd.IntN(25); {
	case n == 0:
		return wild(rnd)
	case n < 3 || len(m.counters) == 0:
		return rnd.IntN(12)
	}
	return m.counters[rnd.IntN(len(m.counters))].ID
}

func (m *model) drawPage(rnd *rand.Rand) int {
	if rnd.IntN(15) == 0 {
		return []int{-1, m.shape.Pages, 1 << 40, least, most}[rnd.IntN(5)]
	}
	return rnd.IntN(m.shape.Pages)
}

// draw: a step.
func (s scale) draw(rnd *rand.Rand, m *model) api.Step {
	switch n := rnd.IntN(40); {
	case n < 3 || len(m.live) == 0 && n < 14:
		return begin()
	case n < 7 || len(m.counters) == 0 && n < 25:
		return s.create(rnd, m)
	case n < 22:
		return add(m.drawTx(rnd), m.drawID(rnd), s.number(rnd))
	case n < 24:
		return read(m.drawID(rnd))
	case n < 26:
		return sum(rnd.IntN(5))
	case n < 29:
		return commit(m.drawTx(rnd))
	case n < 31:
		return abort(m.drawTx(rnd))
	case n < 33:
		return checkpoint()
	case n < 36:
		return evict(m.drawPage(rnd))
	case n < 39:
		return flush(m.drawPage(rnd))
	}
	return list()
}

func drawShape(rnd *rand.Rand) api.Shape {
	return shaped(2+rnd.IntN(4), 4+rnd.IntN(30+rnd.IntN(300)), 2+rnd.IntN(3))
}

func drawLoss(rnd *rand.Rand) api.Loss {
	return api.Loss{Keep: []uint64{rnd.Uint64() & rnd.Uint64()}, Torn: rnd.IntN(8) - 1, Offset: rnd.IntN(514) - 1}
}
