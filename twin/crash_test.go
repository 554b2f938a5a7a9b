package twin_test

import (
	"bytes"
	"math/rand/v2"
	"testing"

	"quota/api"
	"quota/sectors"
	"quota/twin"
)

// losses: of up to two pending writes: every choice of whole ones, and beside it each one torn, at each of these places.
func losses(offsets []int) []api.Loss {
	var out []api.Loss
	for keep := range uint64(4) {
		out = append(out, api.Loss{Keep: []uint64{keep}, Torn: -1})
		for torn := range 2 {
			for _, offset := range offsets {
				out = append(out, api.Loss{Keep: []uint64{keep}, Torn: torn, Offset: offset})
			}
		}
	}
	return out
}

// some: the places at which it matters where a marker, or a half, is torn.
var some = []int{-1, 0, 1, 2, 4, 5, 300, 510, 511, 512, 600}

func every() []int {
	var out []int
	for offset := range 513 {
		out = append(out, offset)
	}
	return out
}

// change: a Write of a sector, or, without bytes, a Sync.
type change struct {
	sector int
	bytes  []byte
}

// writes: the chapter's four steps, for the twin at 2 and a home below 256.
func writes(home int, b []byte) []change {
	return []change{
		{3, b[:512]}, {4, b[512:]}, {},
		{2, marker(0xa5, byte(home))}, {},
		{home, b[:512]}, {home + 1, b[512:]}, {},
		{2, marker(0, byte(home))}, {},
	}
}

func finishes(home int, b []byte) []change { return writes(home, b)[5:] }

func do(d *sectors.Device, all []change) {
	for _, c := range all {
		if c.bytes == nil {
			d.Sync()
		} else {
			d.Write(c.sector, c.bytes)
		}
	}
}

// wantSame: both disks have met the same calls.
func wantSame(t *testing.T, what string, got, want *sectors.Device) {
	t.Helper()
	wantImage(t, what, got, want.Image())
	wantCalls(t, what, got, want.Calls())
	if got.Down() != want.Down() {
		t.Errorf("%s: down %v, want %v", what, got.Down(), want.Down())
	}
}

// pair: two disks with that image, one other write pending, armed alike.
func pair(t *testing.T, image []byte, step int, loss api.Loss) (one, two *sectors.Device) {
	t.Helper()
	one, two = loaded(t, image), loaded(t, image)
	for _, d := range []*sectors.Device{one, two} {
		d.Write(0, half('p'))
		d.Arm(step, loss)
	}
	return one, two
}

// keeps: of up to four pending writes every choice.
func keeps() []api.Loss {
	var out []api.Loss
	for keep := range uint64(16) {
		out = append(out, api.Loss{Keep: []uint64{keep}, Torn: -1})
	}
	return out
}

// TestWriteStepByStep: what the disk holds wherever Write gives up tells which calls it makes, in which order.
func TestWriteStepByStep(t *testing.T) {
	for _, home := range []int{5, 6, 7} {
		for step := 1; step <= 11; step++ {
			for _, loss := range keeps() {
				e := api.ErrDown
				if step == 11 {
					e = api.OK
				}
				d, plain := pair(t, row("ab...cdef"), step, loss)
				wantWrite(t, "P8.2: it gives up", d, 2, home, both('x', 'y'), e)
				do(plain, writes(home, both('x', 'y')))
				wantSame(t, "P8.2: it gives up", d, plain)
			}
		}
	}
}

func TestFinishStepByStep(t *testing.T) {
	for _, home := range []int{5, 6, 7} {
		for step := 1; step <= 6; step++ {
			for _, loss := range keeps() {
				d, plain := pair(t, withMarker(marker(0xa5, byte(home))), step, loss)
				if step == 6 {
					wantFinish(t, "P8.3: it gives up behind", d, 2, true, api.OK)
				} else {
					wantFinish(t, "P8.3: it gives up within", d, 2, false, api.ErrDown)
				}
				do(plain, finishes(home, both('x', 'y')))
				wantSame(t, "P8.3: it gives up", d, plain)
			}
		}
	}
}

// TestReadOfADiskThatIsArmed: it asks for nothing that could crash.
func TestReadOfADiskThatIsArmed(t *testing.T) {
	d := loaded(t, row("ab...cdef"))
	d.Arm(1, api.Loss{})
	wantRead(t, "P8.4", d, 5, both('c', 'd'), api.OK)
	wantFinish(t, "P8.3", d, 2, false, api.OK)
	if d.Down() {
		t.Error("P8.1: a Read has made a changing call")
	}
}

// wantEither: old or new, as the step says at which the Write gave up; nothing else has changed.
func wantEither(t *testing.T, d *sectors.Device, was []byte, home, step int, b []byte) {
	t.Helper()
	got, err := twin.Read(d, home)
	wantErr(t, "P8.5", "Read", err, api.OK)
	old := bytes.Equal(got, was[512*home:512*home+1024])
	now := bytes.Equal(got, b)
	switch {
	case !old && !now:
		t.Fatalf("P8.5: given up at step %d, the page is torn", step)
	case step <= 3 && !old:
		t.Fatalf("P8.5: given up at step %d, ahead of the marker, the page is the new one", step)
	case step >= 6 && !now:
		t.Fatalf("P8.5: given up at step %d, behind the marker's Sync, the page is the old one", step)
	}
	image := d.Image()
	for i := range len(image) / 512 {
		if among(i, 2, 3) || among(i, home, 2) {
			continue
		}
		if !bytes.Equal(image[512*i:512*i+512], was[512*i:512*i+512]) {
			t.Fatalf("P8.5: given up at step %d, sector %d has changed", step, i)
		}
	}
}

// ahead: images whose marker does not stand, whatever its other bytes are.
func ahead() [][]byte {
	other := row("abzzzcdef")
	other[2*512+511] = 0
	like := withMarker(marker(0, 7))
	like[2*512+300] = 1
	return [][]byte{row("ab...cdef"), withMarker(marker(0, 5)), like, other}
}

// finished: it is up again, and a Finish answers without an error; the next one has nothing to do.
func finished(t *testing.T, d *sectors.Device) {
	t.Helper()
	d.Up()
	_, err := twin.Finish(d, 2)
	wantErr(t, "P8.5", "Finish", err, api.OK)
	calls := d.Calls()
	wantFinish(t, "P8.6", d, 2, false, api.OK)
	wantCalls(t, "P8.6", d, calls)
}

func TestEveryCrashOfWrite(t *testing.T) {
	for i, was := range ahead() {
		for _, home := range []int{0, 5, 7} {
			offsets := some
			if i == len(ahead())-1 && home == 5 {
				offsets = every()
			}
			for step := 1; step <= 10; step++ {
				for _, loss := range losses(offsets) {
					d := loaded(t, was)
					d.Arm(step, loss)
					wantWrite(t, "P8.5", d, 2, home, both('x', 'y'), api.ErrDown)
					finished(t, d)
					wantEither(t, d, was, home, step, both('x', 'y'))
				}
			}
		}
	}
}

// TestEveryCrashOfFinish: a crash within the Finish behind a Write that gave up, and one within the Finish behind that.
func TestEveryCrashOfFinish(t *testing.T) {
	for _, was := range ahead() {
		for step := 4; step <= 10; step++ {
			for _, loss := range losses([]int{1, 511}) {
				d := loaded(t, was)
				d.Arm(step, loss)
				wantWrite(t, "P8.5", d, 2, 5, both('x', 'y'), api.ErrDown)
				for then := 1; then <= 5; then++ {
					for _, again := range losses([]int{1, 300, 511}) {
						crashedFinishes(t, d.Image(), was, step, then, again)
					}
				}
			}
		}
	}
}

func crashedFinishes(t *testing.T, image, was []byte, step, then int, loss api.Loss) {
	t.Helper()
	d := loaded(t, image)
	for _, at := range []int{then, 6 - then} {
		d.Arm(at, loss)
		if did, err := twin.Finish(d, 2); err != nil {
			wantErr(t, "P8.5", "Finish", err, api.ErrDown)
			if did {
				t.Error("P8.3: true beside an error")
			}
		}
		d.Up()
	}
	finished(t, d)
	wantEither(t, d, was, 5, step, both('x', 'y'))
}

// TestWhatWasAnsweredStays: whatever is lost behind a Write or a Finish that has answered nil.
func TestWhatWasAnsweredStays(t *testing.T) {
	for _, was := range ahead() {
		for _, loss := range losses(some) {
			d := loaded(t, was)
			wantWrite(t, "P8.2", d, 2, 5, both('x', 'y'), api.OK)
			d.Crash(loss)
			d.Up()
			wantFinish(t, "P8.6: behind a Write", d, 2, false, api.OK)
			wantEither(t, d, was, 5, 11, both('x', 'y'))
			d = loaded(t, withMarker(marker(0xa5, 5)))
			wantFinish(t, "P8.3", d, 2, true, api.OK)
			d.Crash(loss)
			d.Up()
			wantFinish(t, "P8.6: behind a Finish", d, 2, false, api.OK)
			wantRead(t, "P8.6: behind a Finish", d, 5, both('x', 'y'), api.OK)
		}
	}
}

func drawnLoss(r *rand.Rand) api.Loss {
	return api.Loss{Keep: []uint64{r.Uint64() & 3}, Torn: r.IntN(4) - 1, Offset: r.IntN(520) - 4}
}

func drawnPage(r *rand.Rand) []byte {
	b := make([]byte, 1024)
	for i := range b {
		b[i] = byte(r.Uint32())
	}
	return b
}

// TestManyCrashes: page after page over one twin, which keeps what earlier ones have left there.
func TestManyCrashes(t *testing.T) {
	r := drawn()
	homes := []int{0, 5, 7, 9, 11}
	for range 40 {
		d := made(t, 13)
		pages := map[int][]byte{}
		for _, home := range homes {
			pages[home] = make([]byte, 1024)
		}
		for range 60 {
			home, b := homes[r.IntN(len(homes))], drawnPage(r)
			step := r.IntN(12)
			d.Arm(step, drawnLoss(r))
			was := d.Image()
			if err := twin.Write(d, 2, home, b); err == nil {
				step = 11
			}
			d.Up()
			for range r.IntN(4) {
				d.Arm(1+r.IntN(6), drawnLoss(r))
				twin.Finish(d, 2)
				d.Up()
			}
			finished(t, d)
			wantEither(t, d, was, home, step, b)
			pages[home], _ = twin.Read(d, home)
			for _, other := range homes {
				wantRead(t, "P8.5: the other pages", d, other, pages[other], api.OK)
			}
		}
	}
}
