package master_test

import (
	"bytes"
	"testing"

	"quota/api"
	"quota/master"
	"quota/sectors"
)

// losses: of one pending write: none of it, all of it, and each of its beginnings.
func losses() []api.Loss {
	out := []api.Loss{{Torn: -1}, {Keep: []uint64{1}, Torn: -1}, {Keep: []uint64{1}, Torn: 0, Offset: 7}}
	for offset := range 513 {
		out = append(out, api.Loss{Torn: 0, Offset: offset})
	}
	return out
}

// TestFormatStepByStep: what the disk holds wherever Format gives up tells which calls it makes, in which order.
func TestFormatStepByStep(t *testing.T) {
	old := made(t, 13)
	old.Write(0, slotOf(1000, small, 5))
	old.Write(1, slotOf(999, small, 4))
	old.Write(7, bytes.Repeat([]byte{7}, 512))
	old.Sync()
	zeros, first := make([]byte, 512), slotOf(1, small, 0)
	was0, was1 := slotOf(1000, small, 5), slotOf(999, small, 4)
	for _, c := range []struct {
		step        int
		keep        uint64
		zero, first []byte
	}{
		{1, 0, was0, was1}, {1, 1, zeros, was1},
		{2, 0, was0, was1}, {2, 1, zeros, was1},
		{3, 0, zeros, was1}, {3, 1, zeros, first},
		{4, 0, zeros, was1}, {4, 1, zeros, first},
	} {
		d := loaded(t, old.Image())
		d.Arm(c.step, api.Loss{Keep: []uint64{c.keep}, Torn: -1})
		wantErr(t, "P4.3: it gives up within", "Format", master.Format(d, small), api.ErrDown)
		if d.Calls() != c.step {
			t.Errorf("P4.3: armed with %d, %d changing calls", c.step, d.Calls())
		}
		wantSector(t, "P4.3: given up", d, 0, c.zero)
		wantSector(t, "P4.3: given up", d, 1, c.first)
	}
	d := loaded(t, old.Image())
	d.Arm(5, api.Loss{Torn: -1})
	wantErr(t, "P4.3: it gives up behind", "Format", master.Format(d, small), api.OK)
	if d.Calls() != 4 || d.Down() {
		t.Errorf("P4.3: Format makes %d changing calls", d.Calls())
	}
}

func TestFormatAgainBehindACrash(t *testing.T) {
	for step := 1; step <= 4; step++ {
		for _, loss := range losses() {
			d := formatted(t, small)
			wantErr(t, "P4.5", "Point", master.Point(d, 3), api.OK)
			wantErr(t, "P4.5", "Point", master.Point(d, 4), api.OK)
			d.Arm(step, loss)
			wantErr(t, "P4.3", "Format", master.Format(d, api.Shape{Pages: 2, Log: 4, Frames: 9}), api.ErrDown)
			d.Up()
			wantMaster(t, "P4.4: behind a Format that gave up", d)
			wantErr(t, "P4.3: again", "Format", master.Format(d, api.Shape{Pages: 2, Log: 4, Frames: 9}), api.OK)
			wantOpen(t, "P4.3: again", d, api.Shape{Pages: 2, Log: 4, Frames: 9}, 0)
			wantSector(t, "P4.3: again", d, 0, make([]byte, 512))
		}
	}
}

// TestPointStepByStep: a Write to the older slot's sector, and a Sync.
func TestPointStepByStep(t *testing.T) {
	for turns := range 4 {
		base := formatted(t, small)
		for i := range turns {
			wantErr(t, "P4.5", "Point", master.Point(base, 10+i), api.OK)
		}
		next := turns % 2 // the sector of stamp turns + 2
		was := base.Image()[512*next : 512*next+512]
		made := slotOf(uint64(turns+2), small, 99)
		for step := 1; step <= 2; step++ {
			for keep, want := range [][]byte{was, made} {
				d := loaded(t, base.Image())
				d.Arm(step, api.Loss{Keep: []uint64{uint64(keep)}, Torn: -1})
				wantErr(t, "P4.5: it gives up within", "Point", master.Point(d, 99), api.ErrDown)
				wantSector(t, "P4.5: given up", d, next, want)
				wantSector(t, "P4.5: the other", d, 1-next, base.Image()[512*(1-next):512*(2-next)])
				if d.Calls() != step {
					t.Errorf("P4.5: armed with %d, %d changing calls", step, d.Calls())
				}
			}
		}
	}
}

func TestOneOfBoth(t *testing.T) {
	for turns := range 5 {
		base := formatted(t, small)
		was := 0
		for i := range turns {
			was = 1000 + 300*i
			wantErr(t, "P4.5", "Point", master.Point(base, was), api.OK)
		}
		for step := 1; step <= 2; step++ {
			for _, loss := range losses() {
				d := loaded(t, base.Image())
				d.Arm(step, loss)
				wantErr(t, "P4.6", "Point", master.Point(d, 77777), api.ErrDown)
				d.Up()
				wantEither(t, d, was, 77777)
			}
		}
		wantErr(t, "P4.5", "Point", master.Point(base, 77777), api.OK)
		for _, loss := range losses() {
			d := loaded(t, base.Image())
			d.Crash(loss)
			d.Up()
			wantOpen(t, "P4.6: what was answered stays", d, small, 77777)
		}
	}
}

func wantEither(t *testing.T, d *sectors.Device, was, now int) int {
	t.Helper()
	s, p, err := master.Open(d)
	if s != small || p != was && p != now || err != nil {
		t.Fatalf("P4.6: Open = %v, %d, %v, want the point %d or %d", s, p, err, was, now)
	}
	return p
}

// TestManyCrashes: torn writes over torn ones; the stamps go past one byte.
func TestManyCrashes(t *testing.T) {
	r := drawn()
	for range 20 {
		d := formatted(t, small)
		was := 0
		for range 600 {
			now := r.IntN(api.MaxLSN + 1)
			if step := r.IntN(4); step > 0 {
				d.Arm(step, api.Loss{Keep: []uint64{r.Uint64() & 3 >> r.IntN(3)}, Torn: r.IntN(3) - 1, Offset: r.IntN(520) - 4})
			}
			err := master.Point(d, now)
			if err == nil {
				wantOpen(t, "P4.6", d, small, now)
				d.Crash(api.Loss{Keep: []uint64{r.Uint64()}, Torn: r.IntN(2), Offset: r.IntN(512)})
				d.Up()
				wantOpen(t, "P4.6: what was answered stays", d, small, now)
				was = now
				continue
			}
			wantErr(t, "P4.6", "Point", err, api.ErrDown)
			wantNoOpen(t, "P4.4: down", d, api.ErrDown)
			d.Up()
			was = wantEither(t, d, was, now)
		}
		if m := masterOf(t, d); m.stamp < 257 {
			t.Errorf("the stamps come to %d only", m.stamp)
		}
	}
}
