package engine_test

import (
	"slices"
	"testing"

	"quota/api"
	"quota/engine"
)

// row: a step and the line of a transcript that it must come to.
type row struct {
	step api.Step
	line string
}

func (w *store) rows(all ...row) {
	w.t.Helper()
	for _, r := range all {
		w.want(r.step, r.line)
	}
}

func (w *store) wantFree(free, promised int) {
	w.t.Helper()
	if f, p, err := w.Free(); f != free || p != promised || err != nil {
		w.t.Errorf("rule 10: Free = %d, %d, %v, want %d, %d", f, p, err, free, promised)
	}
}

// armed: the disk gives up at its next changing call, and nothing is kept.
func (w *store) armed() {
	w.t.Helper()
	if e := w.disk.Arm(1, api.Loss{Torn: -1}); e != api.OK {
		w.t.Fatalf("Arm: %d", e)
	}
}

// up: the disk runs again, and is opened.
func (w *store) up() *store {
	w.t.Helper()
	if e := w.disk.Up(); e != api.OK {
		w.t.Fatalf("Up: %d", e)
	}
	return opened(w.t, w.disk)
}

func TestExamples(t *testing.T) {
	w := made(t, small)
	w.wantFree(30, 0)
	w.want(create(1, 1, 0, 10, 5), "0 0 0")
	w.wantFree(29, 0)
	for _, c := range []row{
		{create(1, 1, 0, 10, 5), "121 0 0"}, {create(2, 1, 3, 2, 0), "11 0 0"}, {create(2, 1, 0, 2, 3), "110 0 0"},
		{create(0, 1, 0, 1, 0), "4 0 0"}, {create(2, 1, least, most, most), "10 0 0"},
	} {
		w.rows(c)
	}
	w.rows(row{begin(), "0 1 0"}, row{begin(), "0 2 0"})
	w.wantFree(27, 4)
	w.rows(row{add(1, 1, 5), "0 5 10"}, row{add(2, 1, 1), "110 0 0"}, row{add(2, 1, -5), "0 0 10"}, row{add(2, 1, -1), "110 0 0"})
	w.rows(row{read(1), "0 0 10"}, row{sum(1), "0 5 0"})
	w.rows(row{add(1, 1, -5), "0 0 5"}, row{add(2, 1, 10), "0 5 10"}, row{read(1), "0 5 10"})
	w.rows(row{add(3, 1, 0), "130 0 0"}, row{add(1, 9, 0), "120 0 0"})
	w.rows(row{abort(1), "0 0 0"}, row{abort(1), "130 0 0"}, row{commit(2), "0 0 0"}, row{read(1), "0 10 10"})
	w.rows(row{evict(0), "0 0 0"}, row{evict(0), "101 0 0"}, row{flush(0), "101 0 0"}, row{evict(9), "4 0 0"})
	w = opened(t, w.disk)
	w.rows(row{read(1), "0 10 10"}, row{begin(), "0 3 0"})
}

// TestExamplesOfTheWhole: DOC.md's, step by step.
func TestExamplesOfTheWhole(t *testing.T) {
	one := row{create(1, 1, 0, 10, 5), "0 0 0"}
	w := made(t, small)
	w.rows(one, row{begin(), "0 1 0"}, row{begin(), "0 2 0"}, row{add(1, 1, 4), "0 5 9"}, row{add(2, 1, -5), "0 0 9"})
	w.rows(row{add(2, 1, -1), "110 0 0"}, row{add(1, 1, 2), "110 0 0"}, row{read(1), "0 0 9"}, row{commit(1), "0 0 0"}, row{abort(2), "0 0 0"}, row{read(1), "0 9 9"})

	w = made(t, small)
	w.rows(one, row{begin(), "0 1 0"}, row{begin(), "0 2 0"}, row{add(1, 1, 5), "0 5 10"}, row{add(2, 1, 1), "110 0 0"})
	w.rows(row{add(1, 1, -5), "0 5 5"}, row{add(2, 1, 1), "0 5 6"}, row{list(), "0 1 0 1:6"})

	w = made(t, small)
	w.rows(row{create(1, 7, -5, 5, 1), "0 0 0"}, row{create(2, 7, -5, 5, 2), "0 0 0"}, row{begin(), "0 1 0"}, row{add(1, 1, -4), "0 -3 1"})
	w.rows(row{sum(7), "0 -1 0"}, row{abort(1), "0 0 0"}, row{sum(7), "0 3 0"}, row{sum(8), "122 0 0"}, row{list(), "0 2 0 1:1 2:2"})

	w = made(t, small)
	w.rows(one, row{begin(), "0 1 0"}, row{add(1, 1, 3), "0 5 8"}, row{commit(1), "0 0 0"}, row{begin(), "0 2 0"}, row{add(2, 1, 1), "0 8 9"})
	w.armed()
	w.want(commit(2), "40 0 0")
	w.up().want(list(), "0 1 0 1:8")

	w = made(t, shaped(4, 6, 2))
	w.rows(one, row{begin(), "0 1 0"}, row{begin(), "6 0 0"}, row{add(1, 1, 1), "0 5 6"}, row{add(1, 1, 1), "6 0 0"})
	w.rows(row{checkpoint(), "6 0 0"}, row{abort(1), "0 0 0"}, row{list(), "0 1 0 1:5"})

	w = made(t, shaped(2, 30, 2))
	w.rows(row{create(0, 1, 0, 1, 0), "4 0 0"}, row{create(1, 1, 2, 1, 0), "11 0 0"}, row{create(1, 1, 0, 1, 2), "110 0 0"}, row{create(1, 1, 0, 1, 1), "0 0 0"})
	w.rows(row{create(1, 1, 0, 1, 1), "121 0 0"}, row{begin(), "0 1 0"}, row{add(1, 2, 1), "120 0 0"}, row{add(2, 1, 1), "130 0 0"}, row{commit(2), "130 0 0"})

	w = made(t, small)
	w.rows(one, row{begin(), "0 1 0"}, row{add(1, 1, 3), "0 5 8"}, row{flush(0), "0 0 0"})
	w.armed()
	w.want(commit(1), "40 0 0")
	w.disk.Up()
	w.armed()
	if e, err := engine.Open(w.disk); e != nil || number(t, "Open", err) != api.ErrDown {
		t.Errorf("P3: Open over a disk that gives up = %v, %v", e, err)
	}
	w.up().want(list(), "0 1 0 1:5")

	w = made(t, small)
	w.rows(row{create(1, 1, 0, most, most), "0 0 0"}, row{create(2, 1, 0, 10, 1), "10 0 0"}, row{create(2, 2, 0, 10, 1), "0 0 0"})
	w.want(list(), "0 2 0 1:9223372036854775807 2:1")
}

// TestNothingYet: what a new store tells, and what a store without counters does.
func TestNothingYet(t *testing.T) {
	w := made(t, small)
	for _, x := range []*store{w, w.copied()} {
		x.rows(row{list(), "0 0 0"}, row{read(1), "120 0 0"}, row{sum(1), "122 0 0"}, row{commit(1), "130 0 0"}, row{abort(0), "130 0 0"}, row{evict(0), "101 0 0"})
		if live, err := x.Live(); len(live) != 0 || err != nil {
			t.Errorf("P20.1: Live = %v, %v", live, err)
		}
		x.wantFree(30, 0)
		x.rows(row{begin(), "0 1 0"}, row{commit(1), "0 0 0"}, row{begin(), "0 2 0"}, row{abort(2), "0 0 0"}, row{checkpoint(), "0 0 0"}, row{begin(), "0 3 0"})
		x.wantFree(22, 2)
	}
}

// tight: a store whose log has no room for anything but what is promised: transaction 1 holds counter 1, whose group is at its greatest sum.
func tight(t *testing.T) *store {
	t.Helper()
	w := made(t, shaped(2, 7, 2))
	w.run(create(1, 1, 0, most, most-5), begin(), add(1, 1, 5), add(1, 1, -1))
	w.wantFree(3, 3)
	return w
}

func TestOrderOfErrors(t *testing.T) {
	w := tight(t)
	for _, c := range []struct {
		step api.Step
		e    api.Errno
	}{
		{create(0, 1, 1, 0, 5), api.ErrPlace},
		{create(1, 0, 1, 0, 5), api.ErrPlace},
		{create(1<<20+1, 1, 1, 0, 5), api.ErrPlace},
		{create(1, 1<<20+1, 1, 0, 5), api.ErrPlace},
		{create(-1, -1, 0, 5, 5), api.ErrPlace},
		{create(1, 1, 1, 0, 5), api.ErrTwice},
		{create(1, 9, 0, 1, 5), api.ErrTwice},
		{create(2, 1, 1, 0, 5), api.ErrRange},
		{create(2, 1, most, least, most), api.ErrRange},
		{create(2, 1, 0, most-1, most), api.ErrBounds},
		{create(2, 1, 6, 9, 5), api.ErrBounds},
		{create(2, 1, 0, 9, 6), api.ErrOverflow},
		{create(2, 1, 0, 9, 2), api.ErrOverflow},
		{create(2, 1, 0, 9, 1), api.ErrFull},
		{create(2, 9, least, most, most), api.ErrFull},
		{begin(), api.ErrFull},
		{add(2, 9, most), api.ErrTx},
		{add(0, 1, 1), api.ErrTx},
		{add(-1, 1, 1), api.ErrTx},
		{add(1<<31, 1, 1), api.ErrTx},
		{add(1, 2, most), api.ErrCounter},
		{add(1, 0, 1), api.ErrCounter},
		{add(1, 1, 2), api.ErrBounds},
		{add(1, 1, least), api.ErrBounds},
		{add(1, 1, 1), api.ErrFull},
		{add(1, 1, 0), api.ErrFull},
		{checkpoint(), api.ErrFull},
		{read(2), api.ErrCounter},
		{sum(2), api.ErrGroup},
		{commit(2), api.ErrTx},
		{abort(2), api.ErrTx},
		{evict(2), api.ErrPlace},
		{flush(-1), api.ErrPlace},
	} {
		w.refused(c.step, c.e)
	}
	w.run(commit(1))
	w.wantFree(1, 0)
	w.run(checkpoint())
	w.refused(checkpoint(), api.ErrFull)
}

// TestCreatesOverflow: the worst case counts each net by itself, and so it may refuse what the sum would not.
func TestCreatesOverflow(t *testing.T) {
	w := made(t, small)
	w.run(create(1, 1, least, most, 0), create(2, 1, least, most, 0), begin(), add(1, 1, most), add(1, 2, least))
	w.want(sum(1), "0 -1 0")
	w.refused(create(3, 1, -9, 9, 1), api.ErrOverflow)
	w.refused(create(3, 1, -9, 9, -1), api.ErrOverflow)
	w.run(create(3, 1, -9, 9, 0), create(4, 2, least, most, most), abort(1), create(5, 1, 0, most, most))
	w.want(sum(1), "0 9223372036854775807 0")
}

// TestAddsOverflow: rule 8: the net's own, and the group's; the bounds come first.
func TestAddsOverflow(t *testing.T) {
	w := made(t, small)
	w.run(create(1, 1, least, most, least), begin(), begin(), add(1, 1, most))
	w.refused(add(1, 1, 1), api.ErrOverflow)
	w.refused(add(2, 1, -1), api.ErrBounds)
	w.run(add(2, 1, 1))
	w.want(read(1), "0 -9223372036854775808 0")
	w.refused(add(2, 1, -2), api.ErrBounds)

	w = made(t, small)
	w.run(create(1, 1, -most, most, most), create(2, 1, -5, 5, 0), begin(), begin(), add(1, 1, -10))
	w.refused(add(2, 2, 5), api.ErrOverflow)
	w.run(commit(1), add(2, 2, 5))
	w.refused(add(2, 2, 1), api.ErrBounds)
	w.want(sum(1), "0 9223372036854775802 0")
}

// TestManyLive: as many as may live; the thirty-third is refused ahead of a look at the room.
func TestManyLive(t *testing.T) {
	for _, log := range []int{32 * 3, 200} {
		w := made(t, shaped(2, log, 2))
		for range api.MaxLive {
			w.run(begin())
		}
		w.refused(begin(), api.ErrMany)
		w.run(abort(7))
		if log > 100 {
			w.want(begin(), "0 33 0")
			w.refused(begin(), api.ErrMany)
		}
	}
}

// TestManyHoldings: of one transaction, and not of another; what it holds already may be added to.
func TestManyHoldings(t *testing.T) {
	w := made(t, shaped(4, 4*65, 2))
	for id := 1; id <= api.MaxHoldings+1; id++ {
		w.run(create(id, 1, -5, 5, 0))
	}
	w.run(begin(), begin())
	for id := 1; id <= api.MaxHoldings; id++ {
		w.run(add(1, id, int64(id%2)))
	}
	w.refused(add(1, 65, 0), api.ErrMany)
	w.refused(add(1, 65, 6), api.ErrBounds)
	w.refused(add(1, 66, 0), api.ErrCounter)
	w.run(add(2, 65, 1), add(1, 64, -1), add(1, 1, -1))
	for free, promised, _ := w.Free(); free > promised; free, promised, _ = w.Free() {
		w.run(add(1, 2, 0))
	}
	w.refused(add(1, 65, 0), api.ErrMany)
	w.refused(add(1, 1, 0), api.ErrFull)
	held, err := w.Holdings(1)
	if err != nil || len(held) != 64 || held[0] != (api.Holding{Tx: 1, Counter: 1}) || held[2] != (api.Holding{Tx: 1, Counter: 3, Delta: 1}) {
		t.Errorf("P20.1: Holdings = %v, %v", held, err)
	}
	w.run(abort(1), commit(2))
	w.want(read(65), "0 1 1")
	w.want(read(3), "0 0 0")
}

// TestNoSlot: ErrFull of a store whose pages are used up, though the log has room; a group that is there takes no slot.
func TestNoSlot(t *testing.T) {
	w := made(t, shaped(2, 100, 2))
	for id := 1; id <= 31; id++ {
		w.run(create(id, 1<<20-31+id, 0, 9, 1))
	}
	w.refused(create(32, 1<<20, 0, 9, 1), api.ErrFull)
	w.refused(create(32, 1, 0, 9, 1), api.ErrFull)
	w.refused(create(32, 1, 0, 9, 10), api.ErrBounds)
	w.refused(create(31, 1, 0, 9, 1), api.ErrTwice)
	w.refused(create(32, 1<<20, 0, most, most), api.ErrOverflow)
	w = made(t, shaped(3, 100, 2))
	for id := 1; id <= 62; id++ {
		w.run(create(id<<14, 5, 0, 9, 1))
	}
	w.refused(create(1, 5, 0, 9, 1), api.ErrFull)
	w.want(sum(5), "0 62 0")
}

// TestNumbersAtTheirEnds: of counters and groups.
func TestNumbersAtTheirEnds(t *testing.T) {
	w := made(t, small)
	w.run(create(1<<20, 1<<20, 7, 7, 7), create(1, 1, least, least, least), begin(), add(1, 1<<20, 0), add(1, 1, 0))
	w.refused(add(1, 1<<20, 1), api.ErrBounds)
	w.refused(add(1, 1, -1), api.ErrBounds)
	for _, n := range []int{0, -1, 1<<20 + 1, 1 << 32, least, most} {
		w.refused(read(n), api.ErrCounter)
		w.refused(sum(n), api.ErrGroup)
		w.refused(commit(n), api.ErrTx)
		w.refused(abort(n), api.ErrTx)
		w.refused(add(n, 1, 0), api.ErrTx)
		w.refused(add(1, n, 0), api.ErrCounter)
		if held, err := w.Holdings(n); len(held) != 0 || number(t, "Holdings", err) != api.ErrTx {
			t.Errorf("P20.1: Holdings(%d) = %v, %v", n, held, err)
		}
	}
	for _, n := range []int{-1, 4, 64, 1 << 32, least, most} {
		w.refused(evict(n), api.ErrPlace)
		w.refused(flush(n), api.ErrPlace)
	}
	w.run(commit(1))
	w.want(list(), "0 2 0 1:-9223372036854775808 1048576:7")
}

// TestHoldings: by counter, with a net of 0 too; of whom it is not there any more ErrTx.
func TestHoldings(t *testing.T) {
	w := made(t, small)
	w.run(create(5, 1, -9, 9, 0), create(2, 1, -9, 9, 0), create(9, 2, -9, 9, 0), begin(), begin(), begin())
	w.run(add(2, 9, 3), add(2, 2, 0), add(2, 5, 4), add(2, 5, -4), add(3, 5, 1))
	held, err := w.Holdings(2)
	if want := []api.Holding{{Tx: 2, Counter: 2}, {Tx: 2, Counter: 5}, {Tx: 2, Counter: 9, Delta: 3}}; !slices.Equal(held, want) || err != nil {
		t.Errorf("P20.1: Holdings = %v, %v, want %v", held, err, want)
	}
	if held, err := w.Holdings(1); len(held) != 0 || err != nil {
		t.Errorf("P20.1: Holdings = %v, %v", held, err)
	}
	w.wantFree(30-11, 6+4)
	w.run(commit(2), abort(3))
	for _, tx := range []int{2, 3, 4} {
		if held, err := w.Holdings(tx); len(held) != 0 || number(t, "Holdings", err) != api.ErrTx {
			t.Errorf("P20.1: Holdings(%d) = %v, %v", tx, held, err)
		}
	}
	if live, err := w.Live(); !slices.Equal(live, []int{1}) || err != nil {
		t.Errorf("P20.1: Live = %v, %v", live, err)
	}
	w.wantFree(30-11-2-3, 2)
}
