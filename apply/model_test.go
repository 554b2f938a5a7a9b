package apply_test

import (
	"math"
	"math/big"
	"math/rand/v2"
	"slices"
	"testing"

	"quota/api"
	"quota/apply"
	"quota/page"
)

func drawn() *rand.Rand { return rand.New(rand.NewPCG(14, 0)) }

// wrong: one of P14.3's errors, whether it applies, and its number.
type wrong struct {
	there bool
	e     api.Errno
}

// wrongSlots: P14.3's fifth step, word by word.
func wrongSlots(p page.Page, r api.Record) bool {
	if p.Number == r.Where.Page {
		k := r.Where.Index
		if r.Kind == api.Create {
			return len(p.Groups) != 0 || k != len(p.Counters) || len(p.Counters) >= 31
		}
		return len(p.Groups) != 0 || k < 0 || k > len(p.Counters)-1 || p.Counters[k].ID != r.Counter.ID
	}
	k := r.Sums.Index
	group := k >= 0 && k <= len(p.Groups)-1
	if r.Kind == api.Create {
		next := len(p.Groups) < 84 && k == len(p.Groups)
		return len(p.Counters) != 0 || !group && !next || group && p.Groups[k].ID != r.Counter.Group
	}
	return len(p.Counters) != 0 || !group
}

// number: the value, or the sum, that the record would leave, of whole numbers without bound.
func number(p page.Page, r api.Record) *big.Int {
	n := new(big.Int)
	switch {
	case r.Kind == api.Create && p.Number == r.Where.Page:
		return n.SetInt64(r.Counter.Value)
	case p.Number == r.Where.Page:
		n.SetInt64(p.Counters[r.Where.Index].Value)
	case r.Sums.Index < len(p.Groups):
		n.SetInt64(p.Groups[r.Sums.Index].Sum)
	}
	switch r.Kind {
	case api.Create:
		return n.Add(n, big.NewInt(r.Counter.Value))
	case api.Add:
		return n.Add(n, big.NewInt(r.Delta))
	}
	return n.Sub(n, big.NewInt(r.Delta))
}

// behind: the page with that number in the record's slot.
func behind(p page.Page, r api.Record, n int64) page.Page {
	q := page.Page{Number: p.Number, LSN: r.LSN, Counters: slices.Clone(p.Counters), Groups: slices.Clone(p.Groups)}
	if p.Number == r.Where.Page {
		if r.Kind == api.Create {
			q.Counters = append(q.Counters, r.Counter)
		}
		q.Counters[r.Where.Index].Value = n
		return q
	}
	if r.Sums.Index == len(q.Groups) {
		q.Groups = append(q.Groups, api.Group{})
		q.Groups[r.Sums.Index].ID = r.Counter.Group
	}
	q.Groups[r.Sums.Index].Sum = n
	return q
}

func modelDo(p page.Page, r api.Record) (page.Page, bool, api.Errno) {
	for _, w := range []wrong{
		{!slices.Contains([]api.Kind{api.Create, api.Add, api.Undo}, r.Kind), api.ErrKind},
		{r.LSN < 1 || r.LSN > 2147483647, api.ErrField},
		{r.Where.Page == r.Sums.Page, api.ErrField},
		{!slices.Contains([]int{r.Where.Page, r.Sums.Page}, p.Number), api.ErrPage},
		{p.LSN < r.LSN && wrongSlots(p, r), api.ErrSlot},
	} {
		if w.there {
			return page.Page{}, false, w.e
		}
	}
	if p.LSN >= r.LSN {
		return p, false, api.OK
	}
	n := number(p, r)
	if !n.IsInt64() {
		return page.Page{}, false, api.ErrOverflow
	}
	return behind(p, r, n.Int64()), true, api.OK
}

// drawNumber: small ones, and those near the ends of 64 bits.
func drawNumber(rnd *rand.Rand) int64 {
	switch rnd.IntN(5) {
	case 0:
		return math.MaxInt64 - rnd.Int64N(4)
	case 1:
		return math.MinInt64 + rnd.Int64N(4)
	case 2:
		return int64(rnd.Uint64())
	}
	return rnd.Int64N(9) - 4
}

// drawPage: of one kind or of none; now and then one that is not right.
func drawPage(rnd *rand.Rand) page.Page {
	p := page.Page{Number: rnd.IntN(3), LSN: rnd.IntN(9)}
	kind, n := rnd.IntN(3), rnd.IntN(4)
	if rnd.IntN(5) == 0 {
		n = []int{30, 31, 32, 83, 84, 85}[rnd.IntN(6)]
	}
	both := rnd.IntN(30) == 0
	for range n {
		if kind == 1 || both {
			p.Counters = append(p.Counters, api.Counter{ID: 1 + rnd.IntN(2), Group: 1 + rnd.IntN(2), Value: drawNumber(rnd)})
		}
		if kind == 2 || both {
			p.Groups = append(p.Groups, api.Group{ID: 1 + rnd.IntN(2), Sum: drawNumber(rnd)})
		}
	}
	switch rnd.IntN(30) {
	case 0:
		p.Number = []int{-1, 64, math.MaxInt}[rnd.IntN(3)]
	case 1:
		p.LSN = []int{-1, math.MinInt, 1 << 31, math.MaxInt}[rnd.IntN(4)]
	}
	return p
}

// drawSlots: of a record that has something to say of the page, the slots, the page being the counter's or the sum's.
func drawSlots(rnd *rand.Rand, p page.Page) (where, sums api.Slot) {
	where, sums = slot(p.Number, rnd.IntN(len(p.Counters)+1)), slot(p.Number, rnd.IntN(len(p.Groups)+1))
	if rnd.IntN(3) == 0 {
		where.Index, sums.Index = len(p.Counters), len(p.Groups)
	}
	asCounters := len(p.Counters) > 0
	if rnd.IntN(12) == 0 || len(p.Counters)+len(p.Groups) == 0 {
		asCounters = rnd.IntN(2) == 0
	}
	if asCounters {
		sums.Page = rnd.IntN(9) - 3
	} else {
		where.Page = rnd.IntN(9) - 3
	}
	return where, sums
}

// drawRecord: mostly one that has something to say of the page.
func drawRecord(rnd *rand.Rand, p page.Page) api.Record {
	r := api.Record{Kind: api.Create + api.Kind(rnd.IntN(3)), LSN: 1 + rnd.IntN(12), Delta: drawNumber(rnd)}
	r.Where, r.Sums = drawSlots(rnd, p)
	r.Counter = api.Counter{ID: 1 + rnd.IntN(2), Group: 1 + rnd.IntN(2), Bounds: api.Range{Lo: drawNumber(rnd), Hi: drawNumber(rnd)}, Value: drawNumber(rnd)}
	switch rnd.IntN(25) {
	case 0:
		r.Kind = api.Kind(rnd.IntN(12) - 1)
	case 1:
		r.LSN = []int{math.MinInt, -1, 0, 1<<31 - 1, 1 << 31, math.MaxInt}[rnd.IntN(6)]
	case 2:
		r.Where.Index, r.Sums.Index = r.Where.Index+rnd.IntN(3)-1, r.Sums.Index+rnd.IntN(3)-1
	case 3:
		odd := []int{math.MinInt, -1, 1 << 32, math.MaxInt}[rnd.IntN(4)]
		r.Where.Index, r.Sums.Index = odd, odd
	case 4:
		r.Where.Page, r.Sums.Page = r.Where.Page+rnd.IntN(3)-1, r.Sums.Page+rnd.IntN(3)-1
	}
	return r
}

func TestAgainstTheChaptersWords(t *testing.T) {
	rnd := drawn()
	counts := map[api.Errno]int{}
	done := map[bool]int{}
	for range 200_000 {
		p := drawPage(rnd)
		r := drawRecord(rnd, p)
		q, did, e := apply.Do(p, r)
		want, changed, fault := modelDo(p, r)
		if !same(q, want) || did != changed || e != fault {
			t.Fatalf("P14.3: Do(%v, %v) = %v, %v, %d, want %v, %v, %d", p, r, q, did, e, want, changed, fault)
		}
		counts[e]++
		done[did]++
	}
	for _, e := range []api.Errno{api.OK, api.ErrOverflow, api.ErrField, api.ErrKind, api.ErrPage, api.ErrSlot} {
		if counts[e] < 2000 {
			t.Errorf("%d is seldom answered: %v", e, counts)
		}
	}
	if done[true] < 20_000 {
		t.Errorf("seldom is something done: %v", done)
	}
}
