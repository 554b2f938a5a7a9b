package undo_test

import (
	"bytes"
	"maps"
	"slices"
	"testing"

	"quota/api"
	"quota/apply"
	"quota/undo"
)

// steps: the records that a Run is to write, as the words have them.
func (w *store) steps(tx int) (steps []api.Record, undos int) {
	w.t.Helper()
	x, e := w.table.Get(tx)
	left, fault := model(w.records(), tx)
	if e != api.OK || fault != api.OK {
		w.t.Fatalf("no loser %d: %d, %d", tx, e, fault)
	}
	if !x.Undoing {
		steps = append(steps, plain(api.Abort, tx))
	}
	steps = slices.Concat(steps, left, list(plain(api.End, tx)))
	for k := range steps {
		steps[k].Prev, steps[k].LSN = w.log.Last()+k, w.log.Last()+1+k
	}
	steps[0].Prev = x.Last
	return steps, len(left)
}

// wantOthersStay: what others hold is what they held.
func (w *store) wantOthersStay(before []api.Record, tx int) {
	w.t.Helper()
	for other := 1; other < w.table.Next(); other++ {
		if other == tx {
			continue
		}
		want, fault := undo.Left(before, other)
		if got, e := undo.Left(w.records(), other); e != fault || !same(got, want) {
			w.t.Fatalf("P19.7: behind a Run of %d, Left of %d is %v, %d, and was %v, %d", tx, other, got, e, want, fault)
		}
	}
}

// less: the values, less what the undos take away.
func less(values map[int]int64, undos []api.Record, places []place) map[int]int64 {
	out := maps.Clone(values)
	for _, r := range undos {
		if r.Kind != api.Undo {
			continue
		}
		k := slices.IndexFunc(places, func(x place) bool { return x.id == r.Counter.ID })
		out[r.Counter.ID] -= r.Delta
		out[-1-k%4] -= r.Delta
	}
	return out
}

func TestWhatFollows(t *testing.T) {
	rnd := drawn(3)
	met, held := map[string]int{}, 0
	for seed := range 400 {
		a := drawStore(t, drawShape(rnd), seed)
		for _, tx := range a.losers() {
			before, values, live := a.records(), a.values(), a.table.Live()
			steps, undos := a.steps(tx)
			a.run(tx, undos)
			if got := a.records(); !sameAll(got, slices.Concat(before, steps)) {
				t.Fatalf("P19.3: Run of %d writes %v, want %v", tx, got[len(before):], steps)
			}
			a.wantValues(less(values, steps, a.places))
			a.wantOthersStay(before, tx)
			a.wantGone(tx)
			live = slices.DeleteFunc(live, func(x api.Live) bool { return x.Tx == tx })
			a.wantLive(live...)
			if steps[0].Kind == api.Abort {
				met["anew"]++
			} else {
				met["on"]++
			}
			if held = max(held, undos); t.Failed() {
				t.FailNow()
			}
		}
	}
	if met["anew"] < 200 || met["on"] < 200 || held < 6 {
		t.Errorf("a poor draw: %v, at most %d held", met, held)
	}
}

// sameAll: records with lists of their own among them.
func sameAll(a, b []api.Record) bool {
	return slices.EqualFunc(a, b, func(x, y api.Record) bool {
		alike := slices.Equal(x.Points.Live, y.Points.Live) && slices.Equal(x.Points.Dirty, y.Points.Dirty) && x.Points.Next == y.Points.Next
		x.Points, y.Points = api.Points{}, api.Points{}
		return alike && same(list(x), list(y))
	})
}

// wantGone: nothing is left of a transaction, and a second Run finds it no more.
func (w *store) wantGone(tx int) {
	w.t.Helper()
	last := w.log.Last()
	if left, e := undo.Left(w.records(), tx); e != api.OK || len(left) > 0 {
		w.t.Errorf("P19.4: behind a Run there are left %v, %d", left, e)
	}
	if _, e := w.table.Get(tx); e != api.ErrTx {
		w.t.Errorf("P19.4: behind a Run the table has transaction %d: %d", tx, e)
	}
	w.refused(tx, api.ErrTx)
	if w.log.Last() != last {
		w.t.Errorf("P19.4: a second Run has written %v", w.records()[last:])
	}
}

// TestAsIfNever: with nobody else the values are those of ahead of the first Add.
func TestAsIfNever(t *testing.T) {
	rnd := drawn(4)
	for range 200 {
		s := drawShape(rnd)
		w := made(t, s)
		all := places(s, 4+rnd.IntN(9), 1+rnd.IntN(s.Pages-1))
		for k, x := range all {
			w.write(create(x.id, 1+k%4, rnd.Int64N(99)-49, x.where, x.sums))
		}
		want := w.values()
		w.write(plain(api.Begin, 1))
		for range rnd.IntN(30) {
			x := all[rnd.IntN(len(all))]
			w.write(at(add(1, x.id, rnd.Int64N(1<<40)-1<<39), x.where, x.sums))
		}
		_, undos := w.steps(1)
		w.run(1, undos)
		w.wantValues(want)
	}
}

// TestFromAnywhere: the log ends within what a Run has written; the rest is written, just as it was.
func TestFromAnywhere(t *testing.T) {
	rnd := drawn(5)
	cuts := 0
	for seed := range 60 {
		a := drawStore(t, drawShape(rnd), 1000+seed)
		losers := a.losers()
		if len(losers) == 0 {
			continue
		}
		tx := losers[rnd.IntN(len(losers))]
		before := a.log.Last()
		_, undos := a.steps(tx)
		a.run(tx, undos)
		all, values := a.records(), a.values()
		for n := before; n < len(all); n++ {
			w := made(t, a.shape)
			for _, r := range all[:n] {
				if _, e := w.log.Append(r); e != api.OK {
					t.Fatal(e)
				}
			}
			w.again()
			w.run(tx, min(undos, len(all)-1-n))
			if got := w.records(); !sameAll(got, all) {
				t.Fatalf("P19.5: from record %d on %v are written, want %v", n, got[n:], all[n:])
			}
			w.wantValues(values)
			w.wantGone(tx)
			cuts++
		}
		if t.Failed() {
			t.FailNow()
		}
	}
	if cuts < 200 {
		t.Errorf("a poor draw: %d cuts", cuts)
	}
}

// TestFromAnywhereWithOthersBetween: records of others stand where the log ended; a Prev is the same, an LSN goes on.
func TestFromAnywhereWithOthersBetween(t *testing.T) {
	steps := list(plain(api.Abort, 2), undone3(2, -2), undone(2, 7, 6), plain(api.End, 2))
	for n := range steps {
		w := made(t, small, append(both(), plain(api.Begin, 1), plain(api.Begin, 2), add(2, 7, 5), add3(2, -2), add(2, 7, 1))...)
		want := list(after(7, steps[0]), after(8, steps[1]), after(9, steps[2]), after(10, steps[3]))
		for _, r := range steps[:n] {
			w.write(r)
		}
		w.write(add(1, 7, 3))
		w.write(add(1, 7, -1))
		last := w.log.Last()
		w.run(2, min(2, 3-n))
		want = want[n:]
		for k := range want[1:] {
			want[1+k].Prev = last + 1 + k
		}
		w.wantBehind(last, want...)
		w.wantValues(map[int]int64{7: 12, 3: 20, -2: 32})
		wantLeft(t, w.records(), 1, undone(1, 7, 2))
	}
}

// byHand: P19.3's words, one behind the other, of what is not nil.
func (w *store) byHand(tx int) (int, api.Errno) {
	x, e := w.table.Get(tx)
	if e != api.OK {
		return 0, e
	}
	if x.Committed {
		return 0, api.ErrKind
	}
	var all []api.Record
	for lsn := 1; lsn <= w.log.Last(); lsn++ {
		r, e := w.log.Get(lsn)
		if e != api.OK {
			return 0, e
		}
		all = append(all, r)
	}
	left, e := model(all, tx)
	if e != api.OK {
		return 0, e
	}
	steps := append(slices.Clone(left), plain(api.End, tx))
	if !x.Undoing {
		steps = append(list(plain(api.Abort, tx)), steps...)
	}
	for _, r := range steps {
		if e := w.stepByHand(r); e != api.OK {
			return 0, e
		}
	}
	return len(left), api.OK
}

func (w *store) stepByHand(r api.Record) api.Errno {
	x, _ := w.table.Get(r.Tx)
	r.Prev = x.Last
	lsn, e := w.log.Append(r)
	if e != api.OK {
		return e
	}
	r.LSN = lsn
	if e := w.table.Note(r); e != api.OK {
		return e
	}
	for _, n := range apply.Pages(r) {
		x, err := w.pool.Get(n)
		if err != nil {
			return api.Code(err)
		}
		y, did, e := apply.Do(x, r)
		if e != api.OK {
			return e
		}
		if !did {
			continue
		}
		if err := w.pool.Put(y); err != nil {
			return api.Code(err)
		}
	}
	return api.OK
}

// spoil: now and then something that a Run meets: a page of no bytes, pages that stay, a disk that gives up, a log that is full.
func (a *author) spoil(kind, n, step int) {
	a.t.Helper()
	switch kind {
	case 0:
		a.lay(n, bytes.Repeat([]byte{7}, 1024))
	case 1:
		for k := range a.shape.Frames {
			a.pinned((n + k) % a.shape.Pages)
		}
	case 2:
		a.disk.Arm(step, api.Loss{})
	case 3:
		for a.log.Free() > step%5 {
			a.write(api.Record{Kind: api.Checkpoint, Points: api.Points{Next: 1}})
		}
	case 4:
		a.endLog()
	}
}

// TestAsTheWordsSay: the same calls of the log, of the table and of the pool, one behind the other, and no more.
func TestAsTheWordsSay(t *testing.T) {
	rnd := drawn(6)
	met := map[api.Errno]int{}
	for seed := range 500 {
		s := drawShape(rnd)
		s.Frames = 2
		a, twin := drawStore(t, s, 2000+seed), drawStore(t, s, 2000+seed)
		kind, n, step := rnd.IntN(8), rnd.IntN(s.Pages), 1+rnd.IntN(20)
		a.spoil(kind, n, step)
		twin.spoil(kind, n, step)
		for tx := range a.table.Next() + 1 {
			count, e := twin.byHand(tx)
			met[e]++
			if e == api.OK {
				a.run(tx, count)
			} else {
				a.refused(tx, e)
			}
			a.wantSame(twin.store)
			if t.Failed() {
				t.FailNow()
			}
		}
	}
	for _, e := range []api.Errno{api.OK, api.ErrTx, api.ErrKind, api.ErrDown, api.ErrMark, api.ErrFull} {
		if met[e] < 30 {
			t.Errorf("a poor draw: %v", met)
		}
	}
}

// wantSame: all that the two stores tell, but for what stands in pages that are not held.
func (w *store) wantSame(o *store) {
	w.t.Helper()
	if w.disk.Calls() != o.disk.Calls() || w.log.Forced() != o.log.Forced() || w.log.Last() != o.log.Last() {
		w.t.Errorf("P19.3: %d changing calls, %d forced, %d records, want %d, %d, %d", w.disk.Calls(), w.log.Forced(), w.log.Last(), o.disk.Calls(), o.log.Forced(), o.log.Last())
	}
	if !bytes.Equal(w.disk.Image(), o.disk.Image()) || len(w.disk.Cache()) != len(o.disk.Cache()) {
		w.t.Error("P19.3: the disks are not the same")
	}
	if w.log.Err() == nil && !sameAll(w.records(), o.records()) {
		w.t.Errorf("P19.3: the log has %v, want %v", w.records(), o.records())
	}
	w.wantLive(o.table.Live()...)
	if !slices.Equal(w.pool.Held(), o.pool.Held()) || !slices.Equal(w.pool.Dirty(), o.pool.Dirty()) {
		w.t.Errorf("P19.3: held %v, dirty %v, want %v, %v", w.pool.Held(), w.pool.Dirty(), o.pool.Held(), o.pool.Dirty())
	}
	for _, n := range w.pool.Held() {
		x, err := w.pool.Get(n)
		y, want := o.pool.Get(n)
		if api.Code(err) != api.Code(want) || x.LSN != y.LSN || !slices.Equal(x.Counters, y.Counters) || !slices.Equal(x.Groups, y.Groups) {
			w.t.Errorf("P19.3: page %d is %v, %v, want %v, %v", n, x, err, y, want)
		}
	}
}

// TestNothingIsForcedWhereAllPagesFit: what Run does stays in memory.
func TestNothingIsForcedWhereAllPagesFit(t *testing.T) {
	rnd := drawn(7)
	for seed := range 100 {
		s := drawShape(rnd)
		s.Frames = s.Pages
		a := drawStore(t, s, 5000+seed)
		a.values() // all pages are held from here on
		calls, forced, image := a.disk.Calls(), a.log.Forced(), a.disk.Image()
		for _, tx := range a.losers() {
			_, undos := a.steps(tx)
			a.run(tx, undos)
		}
		if a.disk.Calls() != calls || a.log.Forced() != forced || len(a.disk.Cache()) > 0 || !bytes.Equal(a.disk.Image(), image) {
			t.Fatalf("P19.3: %d records were forced and %d are, %d calls were made", forced, a.log.Forced(), a.disk.Calls()-calls)
		}
	}
}
