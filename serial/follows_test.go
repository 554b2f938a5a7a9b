package serial_test

import (
	"math/rand/v2"
	"slices"
	"testing"

	"quota/api"
	"quota/ledger"
	"quota/serial"
)

// permutations: of the numbers 0 to n - 1, all of them.
func permutations(n int) [][]int {
	if n == 0 {
		return [][]int{nil}
	}
	var out [][]int
	for _, p := range permutations(n - 1) {
		for k := range n {
			out = append(out, slices.Insert(slices.Clone(p), k, n-1))
		}
	}
	return out
}

// shuffled: the runs in this order, the holdings of each in a drawn one.
func shuffled(d *rand.Rand, runs []serial.Run, order []int) []serial.Run {
	own := make([]serial.Run, 0, len(runs))
	for _, k := range order {
		nets := slices.Clone(runs[k].Nets)
		d.Shuffle(len(nets), func(i, j int) { nets[i], nets[j] = nets[j], nets[i] })
		own = append(own, serial.Run{Tx: runs[k].Tx, Nets: nets})
	}
	return own
}

// TestOrderIsNothing: P21.6, of every order of up to five runs; errors too.
func TestOrderIsNothing(t *testing.T) {
	d := drawn(4)
	met := map[api.Errno]int{}
	for round := range 900 {
		s, rare := scale(round%scales), 5+round%100
		start := drawnStart(d, s, rare)
		runs := drawnRuns(d, s, start, rare)
		want, fault := serial.Values(start, runs)
		met[fault]++
		for _, order := range permutations(len(runs)) {
			other := shuffled(d, runs, order)
			if got, e := serial.Values(start, other); !slices.Equal(got, want) || e != fault {
				t.Fatalf("P21.6: round %d: Values(%v, %v) = %v, %d; of %v %v, %d", round, start, other, got, e, runs, want, fault)
			}
		}
	}
	for _, fault := range []api.Errno{api.OK, api.ErrCounter, api.ErrOverflow} {
		if met[fault] < 50 {
			t.Errorf("a poor draw: only %d answers are %d", met[fault], fault)
		}
	}
}

// TestHoldingsOrderIsNothingToPlay: what lies between two holdings of one run is not asked.
func TestHoldingsOrderIsNothingToPlay(t *testing.T) {
	d := drawn(5)
	went := 0
	for round := range 20_000 {
		s := scale(round % scales)
		start := drawnStart(d, s, 500)
		runs := drawnRuns(d, s, start, 500)
		want, place, fault := serial.Play(start, runs)
		same := make([]int, len(runs))
		for k := range same {
			same[k] = k
		}
		other := shuffled(d, runs, same)
		if got, at, e := serial.Play(start, other); !slices.Equal(got, want) || at != place || e != fault {
			t.Fatalf("P21.4: Play(%v, %v) = %v, %d, %d; of %v %v, %d, %d", start, other, got, at, e, runs, want, place, fault)
		}
		if fault == api.OK && len(runs) > 1 {
			went++
		}
	}
	if went < 500 {
		t.Errorf("a poor draw: only %d went", went)
	}
}

// TestAFront: P21.9, of drawn records each front; the runs of a longer one begin with those of a shorter one.
func TestAFront(t *testing.T) {
	d := drawn(6)
	met := map[api.Errno]int{}
	for round := range 10_000 {
		records := drawnRecords(d, scale(round%scales), 4+round%200)
		runs, fault := serial.Of(records)
		met[fault]++
		for k := range records {
			front, e := serial.Of(records[:k])
			switch {
			case fault == api.OK && (e != api.OK || len(front) > len(runs) || !equal(front, runs[:len(front)])):
				t.Fatalf("P21.9: round %d: Of(%v) = %v, of its first %d %v, %d", round, records, runs, k, front, e)
			case e != api.OK && e != fault:
				t.Fatalf("P21.9: round %d: Of(%v) answers %d, of its first %d %d", round, records, fault, k, e)
			}
		}
	}
	for _, fault := range []api.Errno{api.OK, api.ErrTx, api.ErrPlace, api.ErrOverflow} {
		if met[fault] < 200 {
			t.Errorf("a poor draw: only %d answers are %d", met[fault], fault)
		}
	}
}

// book: a log that a ledger lets through.
type book struct {
	ledger  *ledger.Ledger
	records []api.Record
}

// step does one drawn thing, if the ledger takes it.
func (b *book) step(d *rand.Rand, s scale) {
	tx := 1 + d.IntN(4)
	switch d.IntN(12) {
	case 0, 1:
		if c := s.counter(d, 1000); b.ledger.Create(c) == api.OK {
			b.records = append(b.records, create(c))
		}
	case 2:
		b.end(tx, true)
	case 3:
		b.end(tx, false)
	default:
		id, delta := 1+d.IntN(5), s.number(d)
		if b.ledger.Add(tx, id, delta) == api.OK {
			b.records = append(b.records, add(tx, id, delta))
		}
	}
}

func (b *book) end(tx int, settles bool) {
	if settles {
		b.records = append(b.records, commit(tx), api.Record{Kind: api.End, Tx: tx})
		b.ledger.Settle(tx)
		return
	}
	b.records = append(b.records, api.Record{Kind: api.Abort, Tx: tx})
	for _, h := range b.ledger.Holdings(tx) {
		b.records = append(b.records, undo(tx, h.Counter, h.Delta))
	}
	b.records = append(b.records, api.Record{Kind: api.End, Tx: tx})
	b.ledger.Release(tx)
}

// holds: whether anybody does.
func (b *book) holds() bool {
	for tx := 1; tx <= 4; tx++ {
		if len(b.ledger.Holdings(tx)) > 0 {
			return true
		}
	}
	return false
}

// plays: what the records come to, which must go.
func plays(t *testing.T, records []api.Record) ([]serial.Run, []api.Counter) {
	t.Helper()
	start, e := serial.Start(records)
	runs, f := serial.Of(records)
	if e != api.OK || f != api.OK {
		t.Fatalf("P21.8: of %v Start answers %d, Of %d", records, e, f)
	}
	end, at, e := serial.Play(start, runs)
	if e != api.OK {
		t.Fatalf("P21.8: Play(%v, %v) = %d at %d", start, runs, e, at)
	}
	return runs, end
}

// TestLogsOfALedger: P21.8, behind each step, and of every front of the records.
func TestLogsOfALedger(t *testing.T) {
	d := drawn(7)
	still, ran := 0, 0
	for round := range 600 {
		s := scale(round % scales)
		b := &book{ledger: ledger.New()}
		for range 40 {
			b.step(d, s)
			runs, end := plays(t, b.records)
			if b.holds() {
				continue
			}
			still++
			ran += len(runs)
			if want := b.ledger.Counters(); !slices.Equal(end, want) {
				t.Fatalf("P21.8: of %v Play answers %v, the ledger has %v", b.records, end, want)
			}
		}
		for tx := 1; tx <= 4; tx++ {
			b.end(tx, d.IntN(3) > 0)
		}
		if _, end := plays(t, b.records); !slices.Equal(end, b.ledger.Counters()) {
			t.Fatalf("P21.8: of %v Play answers %v, the ledger has %v", b.records, end, b.ledger.Counters())
		}
		for k := range b.records {
			plays(t, b.records[:k])
		}
	}
	if still < 1000 || ran < 1000 {
		t.Errorf("a poor draw: %d times nobody held anything, with %d runs in all", still, ran)
	}
}
