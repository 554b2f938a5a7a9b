package undo_test

import (
	"cmp"
	"math"
	"math/big"
	"math/rand/v2"
	"slices"
	"testing"

	"quota/api"
	"quota/undo"
)

func drawn(run int) *rand.Rand { return rand.New(rand.NewPCG(19, uint64(run))) }

// note: of a counter that is held, in the words of the chapter; the net has no bounds of its own.
type note struct {
	id          int
	net         *big.Int
	where, sums api.Slot
}

func find(held []note, id int) int {
	return slices.IndexFunc(held, func(n note) bool { return n.id == id })
}

// modelStep: what is held behind one more record of the transaction.
func modelStep(held []note, r api.Record) ([]note, api.Errno) {
	k := find(held, r.Counter.ID)
	switch r.Kind {
	case api.Add:
		net := big.NewInt(r.Delta)
		if k >= 0 {
			net.Add(net, held[k].net)
			held = slices.Delete(held, k, k+1)
		}
		if !net.IsInt64() {
			return nil, api.ErrOverflow
		}
		return append(held, note{r.Counter.ID, net, r.Where, r.Sums}), api.OK
	case api.Undo:
		if k < 0 {
			return nil, api.ErrCounter
		}
		if h := held[k]; h.net.Cmp(big.NewInt(r.Delta)) != 0 || h.where != r.Where || h.sums != r.Sums {
			return nil, api.ErrLog
		}
		return slices.Delete(held, k, k+1), api.OK
	case api.Commit:
		return nil, api.OK
	}
	return held, api.OK
}

// model: Left, by a list instead of a map and numbers without end instead of those of 64 bits.
func model(records []api.Record, tx int) ([]api.Record, api.Errno) {
	if tx < 1 || tx > 1<<31-1 {
		return nil, api.ErrTx
	}
	var held []note
	for _, r := range records {
		if r.Tx != tx {
			continue
		}
		next, e := modelStep(held, r)
		if e != api.OK {
			return nil, e
		}
		held = next
	}
	slices.SortFunc(held, func(a, b note) int { return cmp.Compare(a.id, b.id) })
	var out []api.Record
	for _, h := range held {
		out = append(out, api.Record{Kind: api.Undo, Tx: tx, Where: h.where, Sums: h.sums, Delta: h.net.Int64(), Counter: api.Counter{ID: h.id}})
	}
	return out, api.OK
}

// drawDelta: mostly small, now and then at the edges.
func drawDelta(rnd *rand.Rand) int64 {
	edges := []int64{math.MaxInt64, math.MinInt64, math.MaxInt64 - 1, math.MinInt64 + 1, 1 << 62, -1 << 62, 0}
	if rnd.IntN(12) == 0 {
		return edges[rnd.IntN(len(edges))]
	}
	return rnd.Int64N(9) - 4
}

// drawSlots: few, so that two are often the same.
func drawSlots(rnd *rand.Rand) (where, sums api.Slot) {
	if rnd.IntN(9) > 0 {
		return slot(0, 0), slot(1, 0)
	}
	return slot(rnd.IntN(2), rnd.IntN(2)), slot(rnd.IntN(2), rnd.IntN(2))
}

// drawRecord: often an Undo that fits what is there, so that lists get long without a fault.
func drawRecord(rnd *rand.Rand, records []api.Record) api.Record {
	tx := 1 + rnd.IntN(3)
	switch rnd.IntN(10) {
	case 0, 1, 2:
		if left, e := model(records, tx); e == api.OK && len(left) > 0 {
			return left[rnd.IntN(len(left))]
		}
	case 3:
		return plain(api.Kind(rnd.IntN(10)), tx)
	}
	r := add(tx, 1+rnd.IntN(5), drawDelta(rnd))
	r.Where, r.Sums = drawSlots(rnd)
	r.LSN, r.Prev, r.Counter.Group = rnd.IntN(9), rnd.IntN(9), rnd.IntN(9)
	if rnd.IntN(30) == 0 {
		r.Kind = api.Undo
	}
	return r
}

func drawRecords(rnd *rand.Rand, count int) []api.Record {
	var out []api.Record
	for range count {
		out = append(out, drawRecord(rnd, out))
	}
	return out
}

func TestLeftAsTheModel(t *testing.T) {
	rnd := drawn(0)
	met, held := map[api.Errno]int{}, 0
	for range 20_000 {
		records := drawRecords(rnd, rnd.IntN(25))
		for tx := range 5 {
			want, fault := model(records, tx)
			if fault != api.OK {
				wantNone(t, records, tx, fault)
			} else {
				wantLeft(t, records, tx, want...)
			}
			met[fault]++
			held = max(held, len(want))
		}
		if t.Failed() {
			t.FailNow()
		}
	}
	for _, e := range []api.Errno{api.OK, api.ErrOverflow, api.ErrCounter, api.ErrLog, api.ErrTx} {
		if met[e] < 500 {
			t.Errorf("a poor draw: %v", met)
		}
	}
	if held < 5 {
		t.Errorf("a poor draw: at most %d were held", held)
	}
}

// TestTakenBackOneByOne: whichever of what is left is taken back first, the others are left as they were.
func TestTakenBackOneByOne(t *testing.T) {
	rnd := drawn(1)
	for range 2000 {
		records := drawRecords(rnd, 20)
		left, e := undo.Left(records, 1)
		if e != api.OK {
			continue
		}
		for len(left) > 0 {
			k := rnd.IntN(len(left))
			records = append(records, left[k])
			left = slices.Delete(left, k, k+1)
			wantLeft(t, records, 1, left...)
		}
		if t.Failed() {
			t.FailNow()
		}
	}
}
