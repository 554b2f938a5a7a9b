package engine_test

import (
	"bytes"
	"testing"

	"quota/api"
	"quota/engine"
	"quota/sectors"
)

// change: a changing call of a disk: a Write of these bytes, or, without bytes, a Sync.
type change struct {
	sector int
	b      []byte
}

// formatting: what Format does to an image, in the chapter's words; the last slot's bytes are chapter 4's.
func formatting(image []byte, s api.Shape) []change {
	zeros := make([]byte, 512)
	out := []change{{0, zeros}, {1, zeros}, {}}
	wiped := false
	for i := 2; i < need(s); i++ {
		if !bytes.Equal(image[512*i:512*i+512], zeros) {
			out, wiped = append(out, change{i, zeros}), true
		}
	}
	if wiped {
		out = append(out, change{})
	}
	first := make([]byte, 512)
	copy(first, []byte{0x4d, 1, 0, 0, 0, 0, 0, 0, 0, byte(s.Pages), byte(s.Log), byte(s.Log >> 8), byte(s.Frames)})
	first[511] = 1
	return append(out, change{0, zeros}, change{}, change{1, first}, change{})
}

func perform(d *sectors.Device, all []change) api.Errno {
	for _, c := range all {
		e := api.OK
		if c.b == nil {
			e = d.Sync()
		} else {
			e = d.Write(c.sector, c.b)
		}
		if e != api.OK {
			return e
		}
	}
	return api.OK
}

// noise: a disk of any bytes.
func noise(s api.Shape) []byte {
	rnd, out := drawn(1), make([]byte, 512*need(s))
	for k := range out {
		out[k] = byte(rnd.Uint32())
	}
	return out
}

// old: a store of two checkpoints, so that both of the master's slots stand.
func old(t *testing.T, s api.Shape) *store {
	t.Helper()
	w := made(t, s)
	w.run(create(1, 1, -9, 9, 5), create(7, 2, -9, 9, 6), begin(), add(1, 1, 2), checkpoint(), add(1, 7, -3), flush(0), commit(1), checkpoint(), begin(), add(2, 1, 1), checkpoint())
	return w
}

const oldCounters = "1:7 7:3"

// images: what a disk of the shape may have had.
func images(t *testing.T, s api.Shape) [][]byte {
	t.Helper()
	last := make([]byte, 512*need(s))
	last[len(last)-1] = 1
	head := make([]byte, 512*need(s))
	head[0], head[600] = 1, 1
	return [][]byte{make([]byte, 512*need(s)), last, head, noise(s), old(t, s).disk.Image()}
}

// TestFormatsCalls: those of the disk, one by one; what Format leaves is always the same.
func TestFormatsCalls(t *testing.T) {
	s := shaped(2, 20, 3)
	fresh := made(t, s).disk.Image()
	for k, image := range images(t, s) {
		all := formatting(image, s)
		for n := range len(all) + 1 {
			loss := api.Loss{Keep: []uint64{uint64(n) * 0x9e3779b97f4a7c15}, Torn: n % 5, Offset: n * 67 % 512}
			a, b := loaded(t, image), loaded(t, image)
			a.Arm(n, loss)
			b.Arm(n, loss)
			want := perform(b, all)
			e, err := engine.Format(a, s)
			if number(t, "Format", err) != want || (e == nil) != (err != nil) || (want == api.OK) != (n == 0) {
				t.Fatalf("P20.1: Format of image %d that gives up at call %d = %v, want error %d", k, n, err, want)
			}
			if a.Calls() != b.Calls() || a.Down() != b.Down() || !bytes.Equal(a.Image(), b.Image()) || len(a.Cache()) != 0 {
				t.Fatalf("P20.1: Format of image %d leaves another disk than its words at call %d", k, n)
			}
			if n == 0 && !bytes.Equal(a.Image(), fresh) {
				t.Fatalf("P20.1: Format leaves something of image %d", k)
			}
		}
	}
}

// TestFormatsCache: what waits in the cache is what the disk has.
func TestFormatsCache(t *testing.T) {
	s := shaped(2, 4, 2)
	d := loaded(t, make([]byte, 512*need(s)))
	d.Write(9, bytes.Repeat([]byte{7}, 512))
	if _, err := engine.Format(d, s); err != nil {
		t.Fatal(err)
	}
	if !bytes.Equal(d.Image(), made(t, s).disk.Image()) {
		t.Error("P20.1: Format leaves what waited in the cache")
	}
}

func TestFormatsErrors(t *testing.T) {
	down := func(n int) *sectors.Device {
		d := device(t, n)
		d.Crash(api.Loss{})
		return d
	}
	for _, c := range []struct {
		d *sectors.Device
		s api.Shape
		e api.Errno
	}{
		{nil, small, api.ErrHandle},
		{nil, api.Shape{}, api.ErrHandle},
		{device(t, 10), api.Shape{}, api.ErrLimits},
		{down(10), shaped(1, 30, 2), api.ErrLimits},
		{device(t, need(shaped(65, 30, 2))), shaped(65, 30, 2), api.ErrLimits},
		{device(t, need(shaped(4, 3, 2))), shaped(4, 3, 2), api.ErrLimits},
		{device(t, need(shaped(4, 4097, 2))), shaped(4, 4097, 2), api.ErrLimits},
		{device(t, 43), shaped(4, 30, 1), api.ErrLimits},
		{device(t, 43), shaped(4, 30, 17), api.ErrLimits},
		{device(t, 43), shaped(-4, least, most), api.ErrLimits},
		{device(t, 42), small, api.ErrPlace},
		{device(t, 44), small, api.ErrPlace},
		{down(44), small, api.ErrPlace},
		{device(t, 8192), small, api.ErrPlace},
		{down(43), small, api.ErrDown},
	} {
		e, err := engine.Format(c.d, c.s)
		if e != nil || number(t, "Format", err) != c.e {
			t.Errorf("P20.1: Format(.., %v) = %v, %v, want error %d", c.s, e, err, c.e)
		}
		if c.d != nil && c.d.Calls() != 0 {
			t.Errorf("P20.1: Format(.., %v) was refused and has made %d changing calls", c.s, c.d.Calls())
		}
	}
}

// TestFormatsOfEveryEnd: the least and the greatest shapes there are.
func TestFormatsOfEveryEnd(t *testing.T) {
	for _, s := range []api.Shape{shaped(2, 4, 2), shaped(2, 4, 16), shaped(64, 4, 16), shaped(2, 4096, 2), shaped(64, 4096, 16)} {
		w := made(t, s)
		w.wantFree(s.Log, 0)
		w.run(create(1, 1, 0, 9, 5))
		w.refused(evict(s.Pages), api.ErrPlace)
		w.refused(flush(s.Pages), api.ErrPlace)
		w.run(evict(s.Pages-1), checkpoint())
		w = opened(t, w.disk)
		w.wantFree(s.Log-2, 0)
		w.want(list(), "0 1 0 1:5")
	}
}

// TestFormatOverAStore: a crash within leaves the store that was there, a disk without a master, or the new store.
func TestFormatOverAStore(t *testing.T) {
	s := shaped(2, 20, 3)
	w := old(t, s)
	image := w.disk.Image()
	steps := len(formatting(image, s))
	seen := map[string]int{}
	try := func(n int, loss api.Loss) {
		d := loaded(t, image)
		d.Arm(n, loss)
		if _, err := engine.Format(d, s); number(t, "Format", err) != api.ErrDown {
			t.Fatalf("the disk was to give up: %v", err)
		}
		d.Up()
		seen[leftOf(t, d)]++
	}
	for n := 1; n <= steps; n++ {
		for keep := range uint64(16) {
			for torn := -1; torn < 4; torn++ {
				for _, offset := range []int{0, 1, 5, 14, 511} {
					try(n, api.Loss{Keep: []uint64{keep}, Torn: torn, Offset: offset})
				}
			}
		}
	}
	if len(seen) != 3 {
		t.Errorf("P20.1: a Format that was cut off leaves %v", seen)
	}
}

// leftOf: which of the three a Format that was cut off has left.
func leftOf(t *testing.T, d *sectors.Device) string {
	t.Helper()
	e, err := engine.Open(d)
	if err != nil {
		if number(t, "Open", err) != api.ErrMaster {
			t.Fatalf("P20.1: a Format that was cut off leaves a disk that answers %v", err)
		}
		return "no master"
	}
	w := &store{e, t, d}
	switch x := w.play(list()); x.Text {
	case oldCounters:
		w.wantFree(20-15, 0)
		w.want(begin(), "0 3 0")
		return "the old one"
	case "":
		w.wantFree(20, 0)
		w.want(begin(), "0 1 0")
		return "the new one"
	default:
		t.Fatalf("P20.1: a Format that was cut off leaves the counters %v", x)
	}
	return ""
}

// TestFormatAgain: an engine that answered is a new store, whatever was there, of another shape too.
func TestFormatAgain(t *testing.T) {
	d := device(t, 43)
	for _, s := range []api.Shape{small, small, shaped(2, 34, 3), shaped(9, 20, 2), small} {
		e, err := engine.Format(d, s)
		if err != nil {
			t.Fatal(err)
		}
		for _, w := range []*store{{e, t, d}, opened(t, d)} {
			w.wantFree(s.Log, 0)
			w.rows(row{list(), "0 0 0"}, row{begin(), "0 1 0"})
		}
		w := opened(t, d)
		w.run(create(1, 1, 0, 9, 3), begin(), add(1, 1, 1), checkpoint(), flush(0), flush(s.Pages-1))
	}
}
