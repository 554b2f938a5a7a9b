package engine_test

import (
	"math/big"
	"slices"

	"quota/api"
)

// model: DOC.md's plain model, settled values and nets over whole numbers without bound; and beside it how many records the log has, by which the room is reckoned.
type model struct {
	shape    api.Shape
	counters []api.Counter // in the order in which they were created; each Value is the settled one
	nets     []net
	live     []int
	next     int
	records  int
}

type net struct {
	tx, counter int
	sum         *big.Int
}

func newModel(s api.Shape) *model { return &model{shape: s, next: 1} }

func whole(n int64) *big.Int { return big.NewInt(n) }

func plus(a, b *big.Int) *big.Int { return new(big.Int).Add(a, b) }

func inside(r api.Range, low, high *big.Int) bool {
	return low.Cmp(whole(r.Lo)) >= 0 && high.Cmp(whole(r.Hi)) <= 0
}

func (m *model) copy() *model {
	out := *m
	out.counters, out.nets, out.live = slices.Clone(m.counters), slices.Clone(m.nets), slices.Clone(m.live)
	return &out
}

// index: of a counter, by the order in which they were created; -1: it isn't there.
func (m *model) index(id int) int {
	return slices.IndexFunc(m.counters, func(c api.Counter) bool { return c.ID == id })
}

// groups: by the order in which they came.
func (m *model) groups() []int {
	var out []int
	for _, c := range m.counters {
		if !slices.Contains(out, c.Group) {
			out = append(out, c.Group)
		}
	}
	return out
}

func (m *model) lives(tx int) bool { return slices.Contains(m.live, tx) }

// ends: of the counters that belong, with these nets: the least and the greatest outcome of each net by itself, and all as it stands.
func (m *model) ends(nets []net, belongs func(c api.Counter) bool) (low, high, all *big.Int) {
	low, high, all = whole(0), whole(0), whole(0)
	for _, c := range m.counters {
		if !belongs(c) {
			continue
		}
		low, high, all = plus(low, whole(c.Value)), plus(high, whole(c.Value)), plus(all, whole(c.Value))
		for _, n := range nets {
			switch {
			case n.counter != c.ID:
				continue
			case n.sum.Sign() < 0:
				low = plus(low, n.sum)
			default:
				high = plus(high, n.sum)
			}
			all = plus(all, n.sum)
		}
	}
	return low, high, all
}

func (m *model) one(nets []net, id int) (low, high, all *big.Int) {
	return m.ends(nets, func(c api.Counter) bool { return c.ID == id })
}

func (m *model) group(nets []net, id int) (low, high, all *big.Int) {
	return m.ends(nets, func(c api.Counter) bool { return c.Group == id })
}

// holdings: of a transaction, by counter.
func (m *model) holdings(tx int) []api.Holding {
	var out []api.Holding
	for _, n := range m.nets {
		if n.tx == tx {
			out = append(out, api.Holding{Tx: tx, Counter: n.counter, Delta: n.sum.Int64()})
		}
	}
	slices.SortFunc(out, func(a, b api.Holding) int { return a.Counter - b.Counter })
	return out
}

func (m *model) free() int { return m.shape.Log - m.records }

func (m *model) promised() int { return 2*len(m.live) + len(m.nets) }

// fits: rule 10.
func (m *model) fits(more int) bool { return m.free()-1 >= m.promised()+more }

// hasSlot: whole pages, 31 counters or 84 sums each.
func (m *model) hasSlot(group int) bool {
	groups := len(m.groups())
	if !slices.Contains(m.groups(), group) {
		groups++
	}
	return (len(m.counters)+1+30)/31+(groups+83)/84 <= m.shape.Pages
}

func (m *model) begin() (int, api.Errno) {
	switch {
	case len(m.live) == 32 || m.next > 1<<31-1:
		return 0, api.ErrMany
	case !m.fits(2):
		return 0, api.ErrFull
	}
	m.live = append(m.live, m.next)
	m.next++
	m.records++
	return m.next - 1, api.OK
}

func (m *model) create(c api.Counter) api.Errno {
	low, high, _ := m.group(m.nets, c.Group)
	low, high = plus(low, whole(c.Value)), plus(high, whole(c.Value))
	switch {
	case c.ID < 1 || c.ID > 1<<20 || c.Group < 1 || c.Group > 1<<20:
		return api.ErrPlace
	case m.index(c.ID) >= 0:
		return api.ErrTwice
	case c.Bounds.Lo > c.Bounds.Hi:
		return api.ErrRange
	case c.Value < c.Bounds.Lo || c.Value > c.Bounds.Hi:
		return api.ErrBounds
	case !low.IsInt64() || !high.IsInt64():
		return api.ErrOverflow
	case !m.hasSlot(c.Group) || !m.fits(0):
		return api.ErrFull
	}
	m.counters = append(m.counters, c)
	m.records++
	return api.OK
}

// behind: the nets as they would be, and which of them is changed.
func (m *model) behind(tx, id int, delta int64) (nets []net, at int) {
	nets = slices.Clone(m.nets)
	at = slices.IndexFunc(nets, func(n net) bool { return n.tx == tx && n.counter == id })
	if at < 0 {
		return append(nets, net{tx, id, whole(delta)}), len(nets)
	}
	nets[at].sum = plus(nets[at].sum, whole(delta))
	return nets, at
}

// add: rule 8.
func (m *model) add(tx, id int, delta int64) api.Errno {
	k := m.index(id)
	switch {
	case !m.lives(tx):
		return api.ErrTx
	case k < 0:
		return api.ErrCounter
	}
	nets, at := m.behind(tx, id, delta)
	if low, high, _ := m.one(nets, id); !inside(m.counters[k].Bounds, low, high) {
		return api.ErrBounds
	}
	low, high, _ := m.group(nets, m.counters[k].Group)
	more := len(nets) - len(m.nets)
	switch {
	case !nets[at].sum.IsInt64() || !low.IsInt64() || !high.IsInt64():
		return api.ErrOverflow
	case more > 0 && len(m.holdings(tx)) == 64:
		return api.ErrMany
	case !m.fits(more):
		return api.ErrFull
	}
	m.nets = nets
	m.records++
	return api.OK
}

// over: the transaction lives no longer; its nets are settled, or gone.
func (m *model) over(tx int, settle bool) {
	var rest []net
	for _, n := range m.nets {
		if n.tx != tx {
			rest = append(rest, n)
		} else if settle {
			m.counters[m.index(n.counter)].Value += n.sum.Int64()
		}
	}
	m.nets = rest
	m.live = slices.DeleteFunc(m.live, func(n int) bool { return n == tx })
}

func (m *model) commit(tx int) api.Errno {
	if !m.lives(tx) {
		return api.ErrTx
	}
	m.over(tx, true)
	m.records += 2
	return api.OK
}

func (m *model) abort(tx int) api.Errno {
	if !m.lives(tx) {
		return api.ErrTx
	}
	m.records += 2 + len(m.holdings(tx))
	m.over(tx, false)
	return api.OK
}

func (m *model) checkpoint() api.Errno {
	if !m.fits(0) {
		return api.ErrFull
	}
	m.records++
	return api.OK
}

func (m *model) read(id int) api.Answer {
	if m.index(id) < 0 {
		return api.Answer{Code: api.ErrCounter}
	}
	low, high, _ := m.one(m.nets, id)
	return api.Answer{A: low.Int64(), B: high.Int64()}
}

func (m *model) sum(group int) api.Answer {
	if !slices.Contains(m.groups(), group) {
		return api.Answer{Code: api.ErrGroup}
	}
	_, _, all := m.group(m.nets, group)
	return api.Answer{A: all.Int64()}
}

// stand: all counters as they stand, by number.
func (m *model) stand() []api.Counter {
	out := slices.Clone(m.counters)
	for k, c := range out {
		_, _, all := m.one(m.nets, c.ID)
		out[k].Value = all.Int64()
	}
	slices.SortFunc(out, func(a, b api.Counter) int { return a.ID - b.ID })
	return out
}

// play: a step's answer. Of a page's number alone it can't be told whether the page is in the pool: the hand says that.
func (m *model) play(s api.Step) api.Answer {
	switch s.Kind {
	case api.StepBegin:
		n, e := m.begin()
		return api.Answer{Code: e, A: int64(n)}
	case api.StepCreate:
		return api.Answer{Code: m.create(counterOf(s))}
	case api.StepAdd:
		if e := m.add(s.Tx, s.Counter, s.A); e != api.OK {
			return api.Answer{Code: e}
		}
		return m.read(s.Counter)
	case api.StepRead:
		return m.read(s.Counter)
	case api.StepGroup:
		return m.sum(s.Group)
	case api.StepCommit:
		return api.Answer{Code: m.commit(s.Tx)}
	case api.StepAbort:
		return api.Answer{Code: m.abort(s.Tx)}
	case api.StepCheckpoint:
		return api.Answer{Code: m.checkpoint()}
	case api.StepList:
		return api.Answer{A: int64(len(m.counters)), Text: text(m.stand())}
	}
	if s.Counter < 0 || s.Counter >= m.shape.Pages {
		return api.Answer{Code: api.ErrPlace}
	}
	return api.Answer{}
}

// lost: what a crash leaves: of those that lived nothing.
func (m *model) lost() *model {
	out := m.copy()
	out.nets, out.live = nil, nil
	return out
}
