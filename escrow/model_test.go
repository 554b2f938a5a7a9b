package escrow_test

import (
	"math/big"
	"math/rand/v2"
	"slices"
	"testing"

	"quota/api"
	"quota/escrow"
)

// model: the chapter's words over whole numbers without bound; holders stand in a list, and every answer is reckoned anew.
type model struct {
	lo, hi, settled *big.Int
	holders         []holder
}

type holder struct {
	tx  int
	net *big.Int
}

func whole(n int64) *big.Int { return big.NewInt(n) }

func plus(a, b *big.Int) *big.Int { return new(big.Int).Add(a, b) }

func newModel(bounds api.Range, value int64) *model {
	return &model{lo: whole(bounds.Lo), hi: whole(bounds.Hi), settled: whole(value)}
}

func (m *model) find(tx int) int {
	return slices.IndexFunc(m.holders, func(h holder) bool { return h.tx == tx })
}

// behind: the holders as they would be.
func (m *model) behind(tx int, delta int64) []holder {
	list := slices.Clone(m.holders)
	if k := m.find(tx); k >= 0 {
		list[k].net = plus(list[k].net, whole(delta))
		return list
	}
	return append(list, holder{tx, whole(delta)})
}

func (m *model) worst(list []holder) (low, high *big.Int) {
	low, high = m.settled, m.settled
	for _, h := range list {
		if h.net.Sign() < 0 {
			low = plus(low, h.net)
		} else {
			high = plus(high, h.net)
		}
	}
	return low, high
}

func (m *model) may(tx int, delta int64) api.Errno {
	if tx < 1 || tx > 1<<31-1 {
		return api.ErrTx
	}
	list := m.behind(tx, delta)
	low, high := m.worst(list)
	if low.Cmp(m.lo) < 0 || high.Cmp(m.hi) > 0 {
		return api.ErrBounds
	}
	for _, h := range list {
		if !h.net.IsInt64() {
			return api.ErrOverflow
		}
	}
	return api.OK
}

func (m *model) add(tx int, delta int64) api.Errno {
	fault := m.may(tx, delta)
	if fault == api.OK {
		m.holders = m.behind(tx, delta)
	}
	return fault
}

func (m *model) end(tx int, settle bool) bool {
	k := m.find(tx)
	if k < 0 {
		return false
	}
	if settle {
		m.settled = plus(m.settled, m.holders[k].net)
	}
	m.holders = slices.Delete(slices.Clone(m.holders), k, k+1)
	return true
}

func (m *model) copy() *model {
	own := *m
	own.holders = slices.Clone(m.holders)
	return &own
}

func (m *model) tell() told {
	low, high := m.worst(m.holders)
	out := told{interval: between(low.Int64(), high.Int64()), bounds: between(m.lo.Int64(), m.hi.Int64()), settled: m.settled.Int64()}
	value := m.settled
	list := slices.Clone(m.holders)
	slices.SortFunc(list, func(a, b holder) int { return a.tx - b.tx })
	for _, h := range list {
		value = plus(value, h.net)
		out.holders = append(out.holders, h.tx)
		out.nets = append(out.nets, h.net.Int64())
	}
	out.value = value.Int64()
	return out
}

// outcomes: P10.8, each set of holders by itself.
func (m *model) outcomes(t *testing.T) {
	t.Helper()
	for set := range 1 << len(m.holders) {
		v := m.settled
		for k, h := range m.holders {
			if set>>k&1 == 1 {
				v = plus(v, h.net)
			}
		}
		if v.Cmp(m.lo) < 0 || v.Cmp(m.hi) > 0 {
			t.Fatalf("P10.8: an outcome %v, within %v to %v", v, m.lo, m.hi)
		}
	}
}

// reason: P10.9, a set of holders, the transaction among them, whose outcome would be outside of the bounds.
func (m *model) reason(t *testing.T, tx int, delta int64) {
	t.Helper()
	list := m.behind(tx, delta)
	for set := range 1 << len(list) {
		v, among := m.settled, false
		for k, h := range list {
			if set>>k&1 == 1 {
				v, among = plus(v, h.net), among || h.tx == tx
			}
		}
		if among && (v.Cmp(m.lo) < 0 || v.Cmp(m.hi) > 0) {
			return
		}
	}
	t.Fatalf("P10.9: %d of %d was refused, but no outcome is outside of %v to %v", delta, tx, m.lo, m.hi)
}

// scale: how far a script's numbers go.
type scale int

const (
	small scale = iota
	edge
	any64
)

func (s scale) number(d *rand.Rand) int64 {
	switch s {
	case small:
		return d.Int64N(13) - 6
	case edge:
		return []int64{least, least + 1, least / 2, -1, 0, 1, most / 2, most/2 + 1, most - 1, most}[d.IntN(10)]
	}
	return int64(d.Uint64()) >> d.IntN(64)
}

func (s scale) bounds(d *rand.Rand) api.Range {
	a, b := s.number(d), s.number(d)
	if s == edge && d.IntN(2) == 0 {
		a, b = least, most
	}
	return between(min(a, b), max(a, b))
}

// value: one within the bounds, their ends among them.
func (s scale) value(d *rand.Rand, bounds api.Range) int64 {
	return min(max(s.number(d), bounds.Lo), bounds.Hi)
}

func transaction(d *rand.Rand) int {
	if d.IntN(20) == 0 {
		return []int{0, -1, 1 << 31, 1<<31 - 1}[d.IntN(4)]
	}
	return 1 + d.IntN(6)
}

// step does one drawn thing to both, and holds the answers against each other.
func step(t *testing.T, d *rand.Rand, s scale, e *escrow.Escrow, m *model) {
	t.Helper()
	tx, delta := transaction(d), s.number(d)
	switch d.IntN(10) {
	case 0:
		if got, want := e.Settle(tx), m.end(tx, true); got != want {
			t.Fatalf("P10.6: Settle(%d) = %v, want %v", tx, got, want)
		}
	case 1:
		if got, want := e.Release(tx), m.end(tx, false); got != want {
			t.Fatalf("P10.6: Release(%d) = %v, want %v", tx, got, want)
		}
	case 2:
		if got, want := e.May(tx, delta), m.may(tx, delta); got != want {
			t.Fatalf("P10.3: May(%d, %d) = %d, want %d (%+v)", tx, delta, got, want, tell(e))
		}
	default:
		before := tell(e)
		got, want := e.Add(tx, delta), m.add(tx, delta)
		if got != want {
			t.Fatalf("P10.4: Add(%d, %d) = %d, want %d (%+v)", tx, delta, got, want, before)
		}
		if got == api.ErrBounds {
			m.reason(t, tx, delta)
		}
	}
}

func TestAgainstTheModel(t *testing.T) {
	d := drawn()
	seen := map[api.Errno]int{}
	for round := range 1500 {
		s := scale(round % 3)
		bounds := s.bounds(d)
		value := s.value(d, bounds)
		e, m := made(t, bounds, value), newModel(bounds, value)
		for range 60 {
			step(t, d, s, e, m)
			seen[e.May(1, s.number(d))]++
			if got, want := tell(e), m.tell(); !got.same(want) {
				t.Fatalf("P10.7: %+v, want %+v", got, want)
			}
			wantNet(t, e, 9, 0, false)
			m.outcomes(t)
		}
	}
	for _, fault := range []api.Errno{api.OK, api.ErrBounds, api.ErrOverflow} {
		if seen[fault] < 100 {
			t.Errorf("the scripts met %d only %d times", fault, seen[fault])
		}
	}
}

// TestCopiesGoTheirOwnWay: each copy answers as its model's copy does, whatever is done to the others.
func TestCopiesGoTheirOwnWay(t *testing.T) {
	d := drawn()
	for round := range 200 {
		s := scale(round % 3)
		bounds := s.bounds(d)
		value := s.value(d, bounds)
		kept := []*escrow.Escrow{made(t, bounds, value)}
		models := []*model{newModel(bounds, value)}
		for range 80 {
			k := d.IntN(len(kept))
			if d.IntN(12) == 0 {
				kept, models = append(kept, kept[k].Copy()), append(models, models[k].copy())
			}
			step(t, d, s, kept[k], models[k])
			for i := range kept {
				if got, want := tell(kept[i]), models[i].tell(); !got.same(want) {
					t.Fatalf("P10.1: number %d, behind a step of number %d: %+v, want %+v", i, k, got, want)
				}
			}
		}
	}
}

// TestEndsInAnyOrder: P10.10, of drawn states and drawn orders.
func TestEndsInAnyOrder(t *testing.T) {
	d := drawn()
	for round := range 600 {
		s := scale(round % 3)
		bounds := s.bounds(d)
		value := s.value(d, bounds)
		e := made(t, bounds, value)
		for range 30 {
			e.Add(1+d.IntN(6), s.number(d))
		}
		holders := e.Holders()
		set := d.IntN(1 << len(holders))
		want := whole(value)
		for k, tx := range holders {
			if net, _ := e.Net(tx); set>>k&1 == 1 {
				want = plus(want, whole(net))
			}
		}
		for range 5 {
			c := end(t, e, holders, d.Perm(len(holders)), set)
			wantState(t, c, between(want.Int64(), want.Int64()), want.Int64(), want.Int64())
		}
	}
}
