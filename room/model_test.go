package room_test

import (
	"math"
	"math/big"
	"math/rand/v2"
	"testing"

	"quota/api"
	"quota/room"
)

func drawn() *rand.Rand { return rand.New(rand.NewPCG(15, 0)) }

// event: what has befallen a transaction: a record of that kind, with its counter (Add: it holds the counter).
type event struct {
	kind    api.Kind
	counter int
}

// model: of each transaction all that has befallen it, from its begin on. What it holds, and how it stands, is looked for there each time.
type model struct {
	lives map[int][]event
}

func newModel() *model { return &model{lives: map[int][]event{}} }

func (m *model) has(tx int, kind api.Kind) bool {
	for _, x := range m.lives[tx] {
		if x.kind == kind {
			return true
		}
	}
	return false
}

// held: the counters that it has come to hold, but for those that were undone.
func (m *model) held(tx int) map[int]int {
	out := map[int]int{}
	for _, x := range m.lives[tx] {
		switch x.kind {
		case api.Add:
			out[x.counter] = tx
		case api.Undo:
			delete(out, x.counter)
		}
	}
	return out
}

func (m *model) of(tx int) int {
	switch _, there := m.lives[tx]; {
	case !there:
		return 0
	case m.has(tx, api.Commit):
		return 1
	case m.has(tx, api.Abort):
		return 1 + len(m.held(tx))
	}
	return 2 + len(m.held(tx))
}

func (m *model) promised() int {
	all := 0
	for tx := range m.lives {
		all += m.of(tx)
	}
	return all
}

// may: the sum without any bound.
func (m *model) may(free, parts, more int) api.Errno {
	if min(free, parts, more) < 0 {
		return api.ErrPlace
	}
	sum := big.NewInt(int64(m.promised()))
	sum.Add(sum, big.NewInt(int64(parts)))
	sum.Add(sum, big.NewInt(int64(more)))
	if sum.Cmp(big.NewInt(int64(free))) > 0 {
		return api.ErrFull
	}
	return api.OK
}

func (m *model) begin(tx int) api.Errno {
	_, there := m.lives[tx]
	switch {
	case tx < 1 || tx > 1<<31-1:
		return api.ErrPlace
	case there:
		return api.ErrTwice
	case len(m.lives) == 32:
		return api.ErrMany
	}
	m.lives[tx] = []event{{api.Begin, 0}}
	return api.OK
}

func (m *model) hold(tx, counter int) api.Errno {
	_, there := m.lives[tx]
	_, held := m.held(tx)[counter]
	switch {
	case !there:
		return api.ErrTx
	case counter < 1 || counter > 1<<20:
		return api.ErrPlace
	case m.has(tx, api.Commit) || m.has(tx, api.Abort):
		return api.ErrKind
	case held:
		return api.OK
	case len(m.held(tx)) == 64:
		return api.ErrMany
	}
	m.lives[tx] = append(m.lives[tx], event{api.Add, counter})
	return api.OK
}

func (m *model) wrote(tx int, kind api.Kind, counter int) api.Errno {
	_, there := m.lives[tx]
	_, held := m.held(tx)[counter]
	committed, undoing := m.has(tx, api.Commit), m.has(tx, api.Abort)
	switch {
	case !there:
		return api.ErrTx
	case (kind == api.Commit || kind == api.Abort) && !committed && !undoing:
	case kind == api.Undo && undoing && !held:
		return api.ErrCounter
	case kind == api.Undo && undoing:
	case kind == api.End && (committed || undoing && len(m.held(tx)) == 0):
		delete(m.lives, tx)
		return api.OK
	default:
		return api.ErrKind
	}
	m.lives[tx] = append(m.lives[tx], event{kind, counter})
	return api.OK
}

func (m *model) told() told {
	out := told{all: m.promised()}
	for tx := range out.of {
		out.of[tx] = m.of(tx)
	}
	return out
}

// draw: how a run draws its calls. A few numbers make transactions meet the same counters; many fill the room.
type draw struct {
	txs, counters int
	odd           int // one number in so many is any
	ends          int // one call in so many is a Wrote
}

func (d draw) number(rnd *rand.Rand, most int) int {
	if rnd.IntN(d.odd) > 0 {
		return 1 + rnd.IntN(most)
	}
	edges := []int{math.MinInt, -1, 0, 1, 1 << 20, 1<<20 + 1, 1<<31 - 1, 1 << 31, 1<<32 + 1, math.MaxInt}
	return edges[rnd.IntN(len(edges))]
}

func (d draw) kind(rnd *rand.Rand) api.Kind {
	if rnd.IntN(d.odd) == 0 {
		return kinds[rnd.IntN(len(kinds))]
	}
	return []api.Kind{api.Commit, api.Abort, api.Undo, api.Undo, api.Undo, api.Undo, api.End, api.End}[rnd.IntN(8)]
}

// step: one call of a room and of its model; the call's number, and both answers.
func (d draw) step(rnd *rand.Rand, r *room.Room, m *model) (call int, got, want api.Errno) {
	tx, counter := d.number(rnd, d.txs), d.number(rnd, d.counters)
	if rnd.IntN(d.ends) == 0 {
		k := d.kind(rnd)
		return 3, r.Wrote(tx, k, counter), m.wrote(tx, k, counter)
	}
	switch rnd.IntN(8) {
	case 0:
		return 0, r.Begin(tx), m.begin(tx)
	case 1:
		free, parts, more := d.number(rnd, 200), d.number(rnd, 9), d.number(rnd, 9)
		return 1, r.May(free, parts, more), m.may(free, parts, more)
	}
	return 2, r.Hold(tx, counter), m.hold(tx, counter)
}

// TestDrawnCallsAnswerAsTheModel: call by call, and what is told behind each.
func TestDrawnCallsAnswerAsTheModel(t *testing.T) {
	rnd := drawn()
	names := []string{"Begin", "May", "Hold", "Wrote"}
	type answer struct {
		call  int
		fault api.Errno
	}
	counts := map[answer]int{}
	for _, d := range []draw{{3, 3, 20, 2}, {6, 4, 8, 3}, {36, 9, 40, 12}, {36, 300, 99, 60}, {2, 90, 99, 200}} {
		for range 20 {
			r, m := fresh(t), newModel()
			for range 1000 {
				call, got, want := d.step(rnd, r, m)
				if got != want {
					t.Fatalf("%s = %d, want %d, of %v", names[call], got, want, m.lives)
				}
				if now := tell(r); now != m.told() {
					t.Fatalf("P15.6: behind %s %v is told, want %v, of %v", names[call], now, m.told(), m.lives)
				}
				counts[answer{call, got}]++
			}
		}
	}
	for _, x := range []answer{
		{0, api.OK}, {0, api.ErrPlace}, {0, api.ErrTwice}, {0, api.ErrMany},
		{1, api.OK}, {1, api.ErrPlace}, {1, api.ErrFull},
		{2, api.OK}, {2, api.ErrTx}, {2, api.ErrPlace}, {2, api.ErrKind}, {2, api.ErrMany},
		{3, api.OK}, {3, api.ErrTx}, {3, api.ErrKind}, {3, api.ErrCounter},
	} {
		if counts[x] < 20 {
			t.Errorf("the draw is lopsided: %s answers %d only %d times", names[x.call], x.fault, counts[x])
		}
	}
}

// TestAnswersHangOnTheCallsAlone: the same calls, the same answers, however the maps are gone through.
func TestAnswersHangOnTheCallsAlone(t *testing.T) {
	for range 5 {
		a, b := rand.New(rand.NewPCG(7, 7)), rand.New(rand.NewPCG(7, 7))
		r, s := fresh(t), fresh(t)
		m, n := newModel(), newModel()
		d := draw{36, 40, 30, 4}
		for range 400 {
			_, x, _ := d.step(a, r, m)
			_, y, _ := d.step(b, s, n)
			if x != y || tell(r) != tell(s) {
				t.Fatalf("P15.1: two rooms answer the same call with %d and %d", x, y)
			}
		}
	}
}
