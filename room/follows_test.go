package room_test

import (
	"math/rand/v2"
	"slices"
	"testing"

	"quota/api"
	"quota/room"
)

// written: a record of a transaction.
type written struct {
	tx      int
	kind    api.Kind
	counter int
}

// ways: every record that may come next, of any transaction that there is: a commit or an abort, an undo, an end.
func (m *model) ways() []written {
	var out []written
	for tx := range m.lives {
		held := m.held(tx)
		switch {
		case m.has(tx, api.Commit) || m.has(tx, api.Abort) && len(held) == 0:
			out = append(out, written{tx, api.End, 0})
		case m.has(tx, api.Abort):
			for c := range held {
				out = append(out, written{tx, api.Undo, c})
			}
		default:
			out = append(out, written{tx, api.Commit, 0}, written{tx, api.Abort, 0})
		}
	}
	slices.SortFunc(out, func(a, b written) int {
		if a.tx != b.tx {
			return a.tx - b.tx
		}
		if a.kind != b.kind {
			return int(a.kind - b.kind)
		}
		return a.counter - b.counter
	})
	return out
}

// write: one record of the log, of which so many sectors are free; how many are then.
func write(t *testing.T, r *room.Room, m *model, x written, free int) int {
	t.Helper()
	if free == 0 {
		t.Fatalf("P15.7: %v finds the log full", x)
	}
	if fault := r.Wrote(x.tx, x.kind, x.counter); fault != api.OK {
		t.Fatalf("P15.5: Wrote(%v) = %d, of %v", x, fault, m.lives)
	}
	m.wrote(x.tx, x.kind, x.counter)
	free--
	if r.Promised() > free {
		t.Fatalf("P15.7: behind %v %d are promised, and %d free", x, r.Promised(), free)
	}
	return free
}

// endAll: from now on nothing else is written; choose picks which record comes next. How many there were.
func endAll(t *testing.T, r *room.Room, m *model, choose func([]written) written) int {
	t.Helper()
	first := r.Promised()
	if fault := r.May(first, 0, 0); fault != api.OK {
		t.Fatalf("P15.2: May(%d, 0, 0) = %d, where just so much is promised", first, fault)
	}
	free := first
	for {
		next := m.ways()
		if len(next) == 0 {
			break
		}
		free = write(t, r, m, choose(next), free)
	}
	if r.Promised() != 0 {
		t.Errorf("P15.7: behind all ends %d are promised", r.Promised())
	}
	return first - free
}

// some: a room and its model in the midst of their work.
func some(t *testing.T, rnd *rand.Rand) (*room.Room, *model) {
	t.Helper()
	r, m := fresh(t), newModel()
	d := draw{txs: 1 + rnd.IntN(34), counters: 1 + rnd.IntN(80), odd: 50, ends: 3 + rnd.IntN(9)}
	for range rnd.IntN(300) {
		if _, got, want := d.step(rnd, r, m); got != want {
			t.Fatalf("a call answers %d, want %d", got, want)
		}
	}
	return r, m
}

func TestWhatIsPromisedSuffices(t *testing.T) {
	rnd := drawn()
	fewer := 0
	for range 300 {
		r, m := some(t, rnd)
		first := r.Promised()
		if endAll(t, r, m, func(next []written) written { return next[rnd.IntN(len(next))] }) < first {
			fewer++
		}
	}
	if fewer < 50 {
		t.Errorf("the draw is lopsided: %d rooms ended with fewer records than were promised", fewer)
	}
}

func TestWhatIsPromisedIsNotTooMuch(t *testing.T) {
	rnd := drawn()
	byAbort := func(next []written) written {
		may := slices.DeleteFunc(slices.Clone(next), func(x written) bool { return x.kind == api.Commit })
		return may[rnd.IntN(len(may))]
	}
	for range 300 {
		r, m := some(t, rnd)
		first := r.Promised()
		if n := endAll(t, r, m, byAbort); n != first {
			t.Errorf("P15.8: all ended by abort write %d records, and %d were promised", n, first)
		}
	}
}

// built: a room that has been through these calls, and its model.
func built(t *testing.T, holdings []int, path []written) (*room.Room, *model) {
	t.Helper()
	r, m := fresh(t), newModel()
	for k, n := range holdings {
		if a, b := r.Begin(k+1), m.begin(k+1); a != api.OK || b != api.OK {
			t.Fatalf("P15.3: Begin = %d, %d", a, b)
		}
		for c := range n {
			if a, b := r.Hold(k+1, c+1), m.hold(k+1, c+1); a != api.OK || b != api.OK {
				t.Fatalf("P15.4: Hold = %d, %d", a, b)
			}
		}
	}
	free := r.Promised()
	for _, x := range path {
		free = write(t, r, m, x, free)
	}
	return r, m
}

// longest: how many records the way with most of them writes behind this path; at each moment on the way it must be what is promised.
func longest(t *testing.T, holdings []int, path []written) int {
	t.Helper()
	r, m := built(t, holdings, path)
	most := 0
	for _, x := range m.ways() {
		most = max(most, 1+longest(t, holdings, append(slices.Clone(path), x)))
	}
	if r.Promised() != most {
		t.Errorf("P15.7, P15.8: behind %v %d are promised, and the longest way has %d records", path, r.Promised(), most)
	}
	return most
}

// TestEveryWayOfSmallRooms: all orders in which all records of few transactions may come.
func TestEveryWayOfSmallRooms(t *testing.T) {
	for _, holdings := range [][]int{{}, {0}, {1}, {2}, {3}, {0, 0}, {1, 0}, {1, 1}, {2, 1}, {0, 0, 0}} {
		longest(t, holdings, nil)
	}
}
