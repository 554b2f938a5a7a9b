package log_test

import (
	"bytes"
	"testing"

	"quota/api"
	"quota/log"
	"quota/sectors"
)

// losses: of so many pending writes: every choice of whole ones, and beside it each one torn, at the places where it matters.
func losses(writes int) []api.Loss {
	var out []api.Loss
	for keep := range uint64(1) << writes {
		out = append(out, api.Loss{Keep: []uint64{keep}, Torn: -1})
		for torn := range writes {
			for _, offset := range []int{0, 1, 2, 5, 6, 7, 8, 9, 256, 510, 511, 512} {
				out = append(out, api.Loss{Keep: []uint64{keep}, Torn: torn, Offset: offset})
			}
		}
	}
	return out
}

// TestForceStepByStep: the image at each call that gives up, with all that waits kept, tells the order.
func TestForceStepByStep(t *testing.T) {
	for from := range 4 {
		for to := from + 1; to <= 4; to++ {
			for step := 1; step <= to-from+2; step++ {
				for _, keep := range []uint64{0, 1<<63 - 1} {
					wantStep(t, from, to, step, keep)
				}
			}
		}
	}
}

func wantStep(t *testing.T, from, to, step int, keep uint64) {
	t.Helper()
	d := made(t, 7)
	l := opened(t, d, 2, 5)
	appendAll(t, l, []api.Record{begin(1), begin(2), begin(3), begin(4), begin(5)})
	wantForce(t, "P6.4", l, from, api.OK)
	was := d.Calls()
	d.Arm(step, api.Loss{Keep: []uint64{keep}, Torn: -1})
	written, calls := 0, step
	if step == to-from+2 { // behind the Sync
		wantForce(t, "P6.4: it gives up behind", l, to, api.OK)
		written, calls = to-from, step-1
		wantNumbers(t, "P6.4", l, to, 5, 0)
	} else {
		wantForce(t, "P6.4: it gives up within", l, to, api.ErrDown)
		if keep != 0 {
			written = min(step, to-from)
		}
		wantNumbers(t, "P6.5", l, from, 5, 0)
	}
	wantCalls(t, "P6.4", d, was+calls)
	want := make([]byte, 7*512)
	for i := range from + written {
		copy(want[512*(2+i):], sectorOf(i+1, []byte{1, byte(i + 1)}))
	}
	if !bytes.Equal(d.Image(), want) {
		t.Errorf("P6.4: Force(%d) behind Force(%d), armed with %d, leaves another image", to, from, step)
	}
}

// TestOpenStepByStep: the Sync of what waits, the wiping of sectors, rising, and a Sync.
func TestOpenStepByStep(t *testing.T) {
	full := bytes.Repeat([]byte{8}, 512)
	zeros := make([]byte, 512)
	image := bytes.Join([][]byte{full, sectorOf(1, []byte{1, 1}), full, zeros, full, zeros, full}, nil)
	for _, c := range []struct {
		step    int
		keep    uint64
		pending int // is it durable?
		wiped   []int
	}{
		{1, 0, 0, nil}, {1, 1, 1, nil},
		{2, 0, 1, nil}, {2, 1, 1, []int{2}},
		{3, 0, 1, nil}, {3, 1, 1, []int{2}}, {3, 2, 1, []int{4}}, {3, 3, 1, []int{2, 4}},
		{4, 0, 1, nil}, {4, 1, 1, []int{2}}, {4, 3, 1, []int{2, 4}}, {4, 4, 1, []int{5}}, {4, 7, 1, []int{2, 4, 5}},
		{5, 0, 1, nil}, {5, 2, 1, []int{4}}, {5, 5, 1, []int{2, 5}}, {5, 7, 1, []int{2, 4, 5}},
	} {
		d := loaded(t, image)
		d.Write(5, full) // of the log, behind its end
		d.Arm(c.step, api.Loss{Keep: []uint64{c.keep}, Torn: -1})
		wantNoOpen(t, "P6.2: it gives up within", d, 1, 5, 0, api.ErrDown)
		wantCalls(t, "P6.2", d, 1+c.step)
		want := bytes.Clone(image)
		if c.pending == 1 {
			copy(want[512*5:], full)
		}
		for _, i := range c.wiped {
			clear(want[512*i : 512*i+512])
		}
		if !bytes.Equal(d.Image(), want) {
			t.Errorf("P6.2: Open, armed with %d, keeping %b, leaves another image", c.step, c.keep)
		}
		d.Up()
		wantNumbers(t, "P6.7", opened(t, d, 1, 5), 1, 1, 4)
	}
}

// history: a log with so many records forced, and the others not.
func history(t *testing.T, want []api.Record, forced int) (*sectors.Device, *log.Log) {
	t.Helper()
	d := made(t, 8)
	l := opened(t, d, 1, 7)
	appendAll(t, l, want)
	wantForce(t, "P6.4", l, forced, api.OK)
	return d, l
}

// TestEveryCrashOfForce: and whatever was lost, the next Force over the same sectors is told apart as well.
func TestEveryCrashOfForce(t *testing.T) {
	want := []api.Record{begin(1), begin(2), commit(2, 2), begin(3), great(5), begin(4)}
	for forced := range 5 {
		for to := forced + 1; to <= 5; to++ {
			for step := 1; step <= to-forced+1; step++ {
				for _, loss := range losses(min(step, to-forced)) {
					d, l := history(t, want, forced)
					d.Arm(step, loss)
					wantForce(t, "P6.7", l, to, api.ErrDown)
					d.Up()
					wantPart(t, d, want, forced, to)
				}
			}
		}
	}
}

// wantPart: the first so many of the records, and none but those; all behind them are zeros.
func wantPart(t *testing.T, d *sectors.Device, want []api.Record, least, most int) int {
	t.Helper()
	l := opened(t, d, 1, 7)
	n := l.Last()
	if n < least || n > most {
		t.Fatalf("P6.7: %d records are there, want %d to %d", n, least, most)
	}
	wantRecords(t, "P6.7", l, want[:n], 7)
	if !bytes.Equal(d.Image()[512*(1+n):], make([]byte, 512*(7-n))) {
		t.Errorf("P6.8: behind the end there are not only zeros")
	}
	wantTwice(t, d, 1, 7, l)
	return n
}

// TestCrashWithoutForce: what was only appended is not there.
func TestCrashWithoutForce(t *testing.T) {
	want := []api.Record{begin(1), begin(2), begin(3)}
	for forced := range 4 {
		d, _ := history(t, want, forced)
		d.Crash(api.Loss{Keep: []uint64{^uint64(0)}})
		d.Up()
		wantPart(t, d, want, forced, forced)
	}
}

// TestEveryCrashOfOpen: a Force that gave up, an Open that gives up, and another.
func TestEveryCrashOfOpen(t *testing.T) {
	want := []api.Record{begin(1), begin(2), begin(3), begin(4), begin(5)}
	for _, keep := range []uint64{0, 2, 4, 5, 6, 8, 10, 11, 12, 13, 14} {
		for _, torn := range []api.Loss{{Torn: -1}, {Torn: 0, Offset: 511}, {Torn: 1, Offset: 100}, {Torn: 3, Offset: 1}} {
			d, l := history(t, want, 1)
			d.Arm(5, api.Loss{Keep: []uint64{keep}, Torn: torn.Torn, Offset: torn.Offset})
			wantForce(t, "P6.7", l, 5, api.ErrDown)
			image := d.Image()
			n, _ := there(image[512:])
			_, changed := wiped(image, 1, 7, n)
			for step := 1; changed > 0 && step <= changed+1; step++ {
				for _, loss := range losses(min(step, changed)) {
					e := loaded(t, image)
					e.Arm(step, loss)
					wantNoOpen(t, "P6.2: it gives up", e, 1, 7, 0, api.ErrDown)
					e.Up()
					wantPart(t, e, want, n, n)
				}
			}
		}
	}
}

// TestCrashesWithinCrashes: many in a row, anywhere, with other records each time; the log is known by what was named to Force.
func TestCrashesWithinCrashes(t *testing.T) {
	r := drawn()
	for range 300 {
		d := made(t, 8)
		var want []api.Record
		forced, named := 0, 0
		for turn := range 12 {
			if r.IntN(3) > 0 {
				d.Arm(1+r.IntN(6), api.Loss{Keep: []uint64{r.Uint64()}, Torn: r.IntN(6) - 1, Offset: r.IntN(520) - 4})
			}
			l, err := log.Open(d, 1, 7)
			if err != nil {
				wantErr(t, "P6.2", "Open", err, 0, api.ErrDown)
				d.Up()
				continue
			}
			if n := l.Last(); n < forced || n > named {
				t.Fatalf("P6.7: %d records, want %d to %d", n, forced, named)
			}
			want = want[:l.Last()]
			wantRecords(t, "P6.7", l, want, 7)
			forced, named = l.Last(), l.Last()
			for l.Free() > 0 && r.IntN(3) > 0 {
				want = append(want, begin(1+turn))
				wantAppend(t, "P6.3", l, begin(1+turn), len(want), api.OK)
			}
			named = forced + r.IntN(len(want)-forced+1)
			if err := l.Force(named); err == nil {
				forced = named
			}
			want = want[:named]
			d.Up()
		}
	}
}
