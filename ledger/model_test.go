package ledger_test

import (
	"math/big"
	"math/rand/v2"
	"slices"
	"testing"

	"quota/api"
	"quota/escrow"
	"quota/ledger"
)

// model: the chapter's words over whole numbers without bound; everything stands in lists, and every answer is reckoned anew.
type model struct {
	counters []settled
	nets     []net
}

type settled struct {
	api.Counter
	value *big.Int
}

type net struct {
	tx, counter int
	sum         *big.Int
}

func whole(n int64) *big.Int { return big.NewInt(n) }

func plus(a, b *big.Int) *big.Int { return new(big.Int).Add(a, b) }

func minus(a, b *big.Int) *big.Int { return new(big.Int).Sub(a, b) }

func (m *model) find(id int) int {
	return slices.IndexFunc(m.counters, func(c settled) bool { return c.ID == id })
}

func (m *model) check(c api.Counter) api.Errno {
	switch {
	case c.ID < 1 || c.ID > 1<<20 || c.Group < 1 || c.Group > 1<<20:
		return api.ErrPlace
	case m.find(c.ID) >= 0:
		return api.ErrTwice
	case c.Bounds.Lo > c.Bounds.Hi:
		return api.ErrRange
	case c.Value < c.Bounds.Lo || c.Value > c.Bounds.Hi:
		return api.ErrBounds
	}
	return api.OK
}

// ends: of all nets of counters that belong; of a group, or of one counter.
func (m *model) ends(belongs func(api.Counter) bool, nets []net) (low, high, sum *big.Int) {
	low, high, sum = whole(0), whole(0), whole(0)
	for _, c := range m.counters {
		if !belongs(c.Counter) {
			continue
		}
		low, high, sum = plus(low, c.value), plus(high, c.value), plus(sum, c.value)
		for _, n := range nets {
			if n.counter != c.ID {
				continue
			}
			sum = plus(sum, n.sum)
			if n.sum.Sign() < 0 {
				low = plus(low, n.sum)
			} else {
				high = plus(high, n.sum)
			}
		}
	}
	return low, high, sum
}

func (m *model) group(id int, nets []net) (low, high, sum *big.Int) {
	return m.ends(func(c api.Counter) bool { return c.Group == id }, nets)
}

func (m *model) one(id int, nets []net) (low, high, sum *big.Int) {
	return m.ends(func(c api.Counter) bool { return c.ID == id }, nets)
}

func (m *model) create(c api.Counter) api.Errno {
	if fault := m.check(c); fault != api.OK {
		return fault
	}
	m.counters = append(slices.Clone(m.counters), settled{c, whole(c.Value)})
	low, high, _ := m.group(c.Group, m.nets)
	if !low.IsInt64() || !high.IsInt64() {
		m.counters = m.counters[:len(m.counters)-1]
		return api.ErrOverflow
	}
	return api.OK
}

func loadModel(list []api.Counter) (*model, api.Errno) {
	m := &model{}
	for _, c := range list {
		if fault := m.check(c); fault != api.OK {
			return nil, fault
		}
		m.counters = append(m.counters, settled{c, whole(c.Value)})
	}
	for _, c := range m.counters {
		if _, _, sum := m.group(c.Group, nil); !sum.IsInt64() {
			return nil, api.ErrOverflow
		}
	}
	return m, api.OK
}

// behind: the nets as they would be.
func (m *model) behind(tx, id int, delta int64) []net {
	list := slices.Clone(m.nets)
	for k, n := range list {
		if n.tx == tx && n.counter == id {
			list[k].sum = plus(n.sum, whole(delta))
			return list
		}
	}
	return append(list, net{tx, id, whole(delta)})
}

func (m *model) may(tx, id int, delta int64) api.Errno {
	if tx < 1 || tx > 1<<31-1 {
		return api.ErrTx
	}
	k := m.find(id)
	if k < 0 {
		return api.ErrCounter
	}
	c, nets := m.counters[k], m.behind(tx, id, delta)
	low, high, _ := m.one(id, nets)
	if low.Cmp(whole(c.Bounds.Lo)) < 0 || high.Cmp(whole(c.Bounds.Hi)) > 0 {
		return api.ErrBounds
	}
	for _, n := range nets {
		if !n.sum.IsInt64() {
			return api.ErrOverflow
		}
	}
	low, high, _ = m.group(c.Group, nets)
	if !low.IsInt64() || !high.IsInt64() {
		return api.ErrOverflow
	}
	return api.OK
}

func (m *model) add(tx, id int, delta int64) api.Errno {
	fault := m.may(tx, id, delta)
	if fault == api.OK {
		m.nets = m.behind(tx, id, delta)
	}
	return fault
}

func (m *model) end(tx int, settle bool) int {
	var rest []net
	m.counters = slices.Clone(m.counters)
	for _, n := range m.nets {
		if n.tx != tx {
			rest = append(rest, n)
			continue
		}
		if k := m.find(n.counter); settle {
			m.counters[k].value = plus(m.counters[k].value, n.sum)
		}
	}
	ended := len(m.nets) - len(rest)
	m.nets = rest
	return ended
}

func (m *model) copy() *model {
	return &model{counters: slices.Clone(m.counters), nets: slices.Clone(m.nets)}
}

// number: P11.10, nothing that is told is beyond 64 bits.
func number(t *testing.T, n *big.Int) int64 {
	t.Helper()
	if !n.IsInt64() {
		t.Fatalf("P11.10: %v is beyond 64 bits", n)
	}
	return n.Int64()
}

func (m *model) tell(t *testing.T, txs ...int) told {
	t.Helper()
	out := told{}
	list := slices.Clone(m.counters)
	slices.SortFunc(list, func(a, b settled) int { return a.ID - b.ID })
	var groups []int
	for _, c := range list {
		low, high, value := m.one(c.ID, m.nets)
		as := c.Counter
		as.Value = number(t, value)
		out.counters = append(out.counters, as)
		out.reads = append(out.reads, between(number(t, low), number(t, high)))
		groups = append(groups, c.Group)
	}
	slices.Sort(groups)
	for _, g := range slices.Compact(groups) {
		low, high, sum := m.group(g, m.nets)
		out.groups = append(out.groups, api.Group{ID: g, Sum: number(t, sum)})
		out.worst = append(out.worst, between(number(t, low), number(t, high)))
	}
	for _, tx := range txs {
		var held []api.Holding
		for _, n := range m.nets {
			if n.tx == tx {
				held = append(held, api.Holding{Tx: tx, Counter: n.counter, Delta: number(t, n.sum)})
			}
		}
		slices.SortFunc(held, func(a, b api.Holding) int { return a.Counter - b.Counter })
		out.holdings = append(out.holdings, held...)
	}
	return out
}

// scale: how far a script's numbers go.
type scale int

const (
	small scale = iota
	edge
	any64
	scales
)

func (s scale) number(d *rand.Rand) int64 {
	switch s {
	case small:
		return d.Int64N(13) - 6
	case edge:
		return []int64{least, least + 1, least / 2, least/2 + 1, -1, 0, 1, most / 2, most/2 + 1, most - 1, most}[d.IntN(11)]
	}
	return int64(d.Uint64()) >> d.IntN(64)
}

// counter: mostly one that may be; few numbers and fewer groups, so that they meet.
func (s scale) counter(d *rand.Rand) api.Counter {
	a, b := s.number(d), s.number(d)
	if s != small && d.IntN(2) == 0 {
		a, b = least, most
	}
	if d.IntN(20) > 0 {
		a, b = min(a, b), max(a, b)
	}
	value := s.number(d)
	if d.IntN(10) > 0 {
		value = min(max(value, a), b)
	}
	c := counter(1+d.IntN(8), 1+d.IntN(3), a, b, value)
	switch d.IntN(30) {
	case 0:
		c.ID = []int{0, -1, 1<<20 + 1, 1 << 20}[d.IntN(4)]
	case 1:
		c.Group = []int{0, -1, 1<<20 + 1, 1 << 20}[d.IntN(4)]
	}
	return c
}

func transaction(d *rand.Rand) int {
	if d.IntN(20) == 0 {
		return []int{0, -1, 1 << 31, 1<<31 - 1}[d.IntN(4)]
	}
	return 1 + d.IntN(5)
}

func counterOf(d *rand.Rand) int {
	if d.IntN(20) == 0 {
		return []int{0, -1, 1 << 20, 1<<20 + 1}[d.IntN(4)]
	}
	return 1 + d.IntN(8)
}

// start: an empty ledger, or one of a drawn list, and its model; the list may be refused, as its model's is.
func start(t *testing.T, d *rand.Rand, s scale) (*ledger.Ledger, *model) {
	t.Helper()
	if d.IntN(3) == 0 {
		return ledger.New(), &model{}
	}
	list := make([]api.Counter, d.IntN(6))
	for i := range list {
		list[i] = s.counter(d)
	}
	l, got := ledger.Load(list)
	m, want := loadModel(list)
	if got != want || (l == nil) != (want != api.OK) {
		t.Fatalf("P11.2: Load(%v) = %v, %d, want %d", list, l, got, want)
	}
	if l == nil {
		return ledger.New(), &model{}
	}
	return l, m
}

// step does one drawn thing to both, holds the answers against each other, and answers the number.
func step(t *testing.T, d *rand.Rand, s scale, l *ledger.Ledger, m *model) api.Errno {
	t.Helper()
	tx, id, delta := transaction(d), counterOf(d), s.number(d)
	switch d.IntN(12) {
	case 0:
		if got, want := l.Settle(tx), m.end(tx, true); got != want {
			t.Fatalf("P11.6: Settle(%d) = %d, want %d", tx, got, want)
		}
	case 1:
		if got, want := l.Release(tx), m.end(tx, false); got != want {
			t.Fatalf("P11.6: Release(%d) = %d, want %d", tx, got, want)
		}
	case 2, 3:
		c := s.counter(d)
		got, want := l.Create(c), m.create(c)
		if got != want {
			t.Fatalf("P11.2: Create(%v) = %d, want %d", c, got, want)
		}
		return got
	case 4:
		if got, want := l.May(tx, id, delta), m.may(tx, id, delta); got != want {
			t.Fatalf("P11.3: May(%d, %d, %d) = %d, want %d", tx, id, delta, got, want)
		}
	default:
		got, want := l.Add(tx, id, delta), m.add(tx, id, delta)
		if got != want {
			t.Fatalf("P11.4: Add(%d, %d, %d) = %d, want %d", tx, id, delta, got, want)
		}
		return got
	}
	return api.OK
}

// wantModel: P11.1 and P11.5 to P11.10, all that is told.
func wantModel(t *testing.T, l *ledger.Ledger, m *model) {
	t.Helper()
	got, want := tell(l, some...), m.tell(t, some...)
	if !got.same(want) {
		t.Fatalf("P11.9: %+v, want %+v", got, want)
	}
	for k, g := range got.groups {
		if sum, fault := l.Sum(g.ID); sum != g.Sum || fault != api.OK {
			t.Fatalf("P11.8: Sum(%d) = %d, %d, want %d (%v)", g.ID, sum, fault, g.Sum, got.worst[k])
		}
	}
	for id := -1; id < 10; id++ {
		if _, fault := l.Read(id); (fault == api.ErrCounter) != (m.find(id) < 0) {
			t.Fatalf("P11.7: Read(%d): %d", id, fault)
		}
		there := slices.ContainsFunc(got.groups, func(g api.Group) bool { return g.ID == id })
		if _, fault := l.Sum(id); (fault == api.ErrGroup) == there {
			t.Fatalf("P11.8: Sum(%d): %d", id, fault)
		}
	}
}

func TestAgainstTheModel(t *testing.T) {
	d := drawn()
	seen := map[api.Errno]int{}
	for round := range 900 {
		s := scale(round % int(scales))
		l, m := start(t, d, s)
		for range 60 {
			seen[step(t, d, s, l, m)]++
			wantModel(t, l, m)
		}
	}
	for _, fault := range []api.Errno{
		api.OK, api.ErrPlace, api.ErrOverflow, api.ErrRange, api.ErrBounds, api.ErrCounter, api.ErrTwice, api.ErrTx,
	} {
		if seen[fault] < 50 {
			t.Errorf("the scripts met %d only %d times", fault, seen[fault])
		}
	}
}

// TestCopiesGoTheirOwnWay: each copy answers as its model's copy does, whatever is done to the others.
func TestCopiesGoTheirOwnWay(t *testing.T) {
	d := drawn()
	for round := range 90 {
		s := scale(round % int(scales))
		l, m := start(t, d, s)
		kept, models := []*ledger.Ledger{l}, []*model{m}
		for range 60 {
			k := d.IntN(len(kept))
			if d.IntN(12) == 0 {
				kept, models = append(kept, kept[k].Copy()), append(models, models[k].copy())
			}
			step(t, d, s, kept[k], models[k])
			for i := range kept {
				wantModel(t, kept[i], models[i])
			}
		}
	}
}

// played: a ledger that a drawn script has been done to.
func played(t *testing.T, d *rand.Rand, s scale) (*ledger.Ledger, *model) {
	t.Helper()
	l, m := start(t, d, s)
	for range 60 {
		step(t, d, s, l, m)
	}
	return l, m
}

// within: P11.11, on the way from one state to another nothing leaves what it might have come to.
func within(t *testing.T, now, before told) {
	t.Helper()
	for k, w := range before.worst {
		if sum := now.groups[k].Sum; sum < w.Lo || sum > w.Hi || now.worst[k].Lo < w.Lo || now.worst[k].Hi > w.Hi {
			t.Fatalf("P11.11: group %d comes to %d, worst case %v; ahead of it %v", now.groups[k].ID, sum, now.worst[k], w)
		}
	}
	for k, r := range before.reads {
		if v := now.counters[k].Value; v < r.Lo || v > r.Hi || now.reads[k].Lo < r.Lo || now.reads[k].Hi > r.Hi {
			t.Fatalf("P11.11: counter %d comes to %d, %v; ahead of it %v", now.counters[k].ID, v, now.reads[k], r)
		}
	}
}

// TestEndsInAnyOrder: P11.11, of drawn states, drawn ends and drawn orders.
func TestEndsInAnyOrder(t *testing.T) {
	d := drawn()
	for round := range 200 {
		l, m := played(t, d, scale(round%int(scales)))
		set := d.IntN(1 << len(some))
		want := m.copy()
		for k, tx := range some {
			want.end(tx, set>>k&1 == 1)
		}
		before := tell(l, some...)
		for range 4 {
			own, last := l.Copy(), before
			for _, k := range d.Perm(len(some)) {
				if set>>k&1 == 1 {
					own.Settle(some[k])
				} else {
					own.Release(some[k])
				}
				now := tell(own, some...)
				within(t, now, last)
				last = now
			}
			wantModel(t, own, want)
			if len(last.holdings) != 0 {
				t.Fatalf("P11.11: %v are held behind all ends", last.holdings)
			}
		}
		if !tell(l, some...).same(before) {
			t.Fatal("P11.1: what was done to copies has changed the ledger")
		}
	}
}

// TestTakenBackOneByOne: P11.12, in drawn orders.
func TestTakenBackOneByOne(t *testing.T) {
	d := drawn()
	met := 0
	for round := range 300 {
		l, m := played(t, d, scale(round%int(scales)))
		for _, tx := range some {
			held := l.Holdings(tx)
			met += len(held)
			at := map[int]*big.Int{}
			for _, g := range l.Groups() {
				at[g.ID] = whole(g.Sum)
			}
			for _, k := range d.Perm(len(held)) {
				g := m.counters[m.find(held[k].Counter)].Group
				at[g] = minus(at[g], whole(held[k].Delta))
				w, _ := l.Worst(g)
				if at[g].Cmp(whole(w.Lo)) < 0 || at[g].Cmp(whole(w.Hi)) > 0 {
					t.Fatalf("P11.12: group %d is at %v on the way, its worst case is %v", g, at[g], w)
				}
			}
		}
	}
	if met < 1000 {
		t.Errorf("the scripts left only %d holdings", met)
	}
}

// TestTheLedgerIsItsEscrows: P11.13, each counter beside an escrow of its own.
func TestTheLedgerIsItsEscrows(t *testing.T) {
	d := drawn()
	for round := range 300 {
		s := scale(round % int(scales))
		l, own := ledger.New(), map[int]*escrow.Escrow{}
		for range 80 {
			beside(t, d, s, l, own)
			for _, c := range l.Counters() {
				e := own[c.ID]
				if r, fault := l.Read(c.ID); r != e.Interval() || fault != api.OK || c.Bounds != e.Bounds() || c.Value != e.Value() {
					t.Fatalf("P11.13: counter %v, %v; its escrow has %v, %v, %d", c, r, e.Interval(), e.Bounds(), e.Value())
				}
			}
			for _, tx := range some {
				for _, h := range l.Holdings(tx) {
					if sum, held := own[h.Counter].Net(tx); !held || sum != h.Delta {
						t.Fatalf("P11.13: %v; its escrow has %d, %v", h, sum, held)
					}
				}
			}
		}
	}
}

// beside does one drawn thing to the ledger, and the same to the escrow of the counter. An overflow is the group's alone where the escrow would take the delta.
func beside(t *testing.T, d *rand.Rand, s scale, l *ledger.Ledger, own map[int]*escrow.Escrow) {
	t.Helper()
	tx, id, delta := transaction(d), counterOf(d), s.number(d)
	switch d.IntN(10) {
	case 0, 1:
		n := 0
		for _, e := range own {
			if e.Settle(tx) {
				n++
			}
		}
		wantSettle(t, l, tx, n)
	case 2, 3:
		c := s.counter(d)
		if l.Create(c) == api.OK {
			e, fault := escrow.New(c.Bounds, c.Value)
			if fault != api.OK {
				t.Fatalf("P11.13: Create(%v) is OK, of its escrow %d", c, fault)
			}
			own[c.ID] = e
		}
	default:
		e := own[id]
		got := l.Add(tx, id, delta)
		if e == nil || tx < 1 || tx > api.MaxTx {
			return
		}
		want := e.May(tx, delta)
		if got != want && (got != api.ErrOverflow || want != api.OK) {
			t.Fatalf("P11.13: Add(%d, %d, %d) = %d, of its escrow %d", tx, id, delta, got, want)
		}
		if got == api.OK {
			e.Add(tx, delta)
		}
	}
}
