package sectors_test

import (
	"bytes"
	"math"
	"math/bits"
	"testing"

	"quota/api"
	"quota/sectors"
)

// ends: of each sector of an image the first byte and the last, zeros as dots.
func ends(image []byte) string {
	out := ""
	for ; len(image) > 0; image = image[512:] {
		for _, x := range []byte{image[0], image[511]} {
			if x == 0 {
				x = '.'
			}
			out += string(rune(x))
		}
	}
	return out
}

func TestWhatALossLeaves(t *testing.T) {
	for _, c := range []struct {
		loss api.Loss
		want string
	}{
		{api.Loss{Torn: -1}, "......"},
		{api.Loss{Keep: []uint64{1}, Torn: -1}, "aa...."},
		{api.Loss{Keep: []uint64{2}, Torn: -1}, "..bb.."},
		{api.Loss{Keep: []uint64{4}, Torn: -1}, "....cc"},
		{api.Loss{Keep: []uint64{7}, Torn: -1}, "aabbcc"},
		{api.Loss{Keep: []uint64{math.MaxUint64, math.MaxUint64}, Torn: -1}, "aabbcc"},
		{api.Loss{Keep: []uint64{1<<63 + 8}, Torn: -1}, "......"},
		{api.Loss{Keep: []uint64{0, 7}, Torn: -1}, "......"},
		{api.Loss{Torn: 0}, "......"},
		{api.Loss{Torn: 0, Offset: 1}, "a....."},
		{api.Loss{Torn: 1, Offset: 511}, "..b..."},
		{api.Loss{Torn: 2, Offset: 512}, "....cc"},
		{api.Loss{Torn: 2, Offset: 513}, "....cc"},
		{api.Loss{Torn: 2, Offset: math.MaxInt}, "....cc"},
		{api.Loss{Torn: 2, Offset: -1}, "......"},
		{api.Loss{Torn: 2, Offset: math.MinInt}, "......"},
		{api.Loss{Torn: 3, Offset: 9}, "......"},
		{api.Loss{Torn: math.MinInt, Offset: 9}, "......"},
		{api.Loss{Torn: math.MaxInt, Offset: 9}, "......"},
		{api.Loss{Torn: 64, Offset: 9}, "......"},
		{api.Loss{Keep: []uint64{2}, Torn: 1, Offset: 1}, "..bb.."},
		{api.Loss{Keep: []uint64{5}, Torn: 1, Offset: 1}, "aab.cc"},
	} {
		for name, crash := range crashes {
			d := made(t, 3)
			for i, x := range []byte("abc") {
				d.Write(i, full(x))
			}
			crash(t, d, c.loss)
			if got := ends(d.Image()); got != c.want || !d.Down() || len(d.Cache()) != 0 {
				t.Errorf("Words: %s with %v leaves %s, want %s", name, c.loss, got, c.want)
			}
		}
	}
}

// crashes: both ways in which a device gives up without another write.
var crashes = map[string]func(t *testing.T, d *sectors.Device, l api.Loss){
	"Crash": func(t *testing.T, d *sectors.Device, l api.Loss) {
		t.Helper()
		want(t, "P3.8: Crash", d.Crash(l), api.OK)
	},
	"a Sync that crashes": func(t *testing.T, d *sectors.Device, l api.Loss) {
		t.Helper()
		want(t, "P3.7: Arm", d.Arm(1, l), api.OK)
		want(t, "P3.5: Sync", d.Sync(), api.ErrDown)
	},
}

func TestKeepIsLookedAtBitByBit(t *testing.T) {
	const writes = 200
	for k := range writes {
		d := made(t, writes)
		for i := range writes {
			d.Write(i, full('a'))
		}
		keep := make([]uint64, 4)
		keep[k/64] = bits.RotateLeft64(1, k)
		want(t, "P3.8: Crash", d.Crash(api.Loss{Keep: keep, Torn: -1}), api.OK)
		image := make([]byte, writes*512)
		copy(image[k*512:], full('a'))
		wantImage(t, "Words: one bit, one write", d, image)
	}
}

func TestKeepMayBeShort(t *testing.T) {
	const writes = 130
	for words := range 4 {
		d := made(t, writes)
		for i := range writes {
			d.Write(i, full('a'))
		}
		keep := make([]uint64, words)
		for i := range keep {
			keep[i] = math.MaxUint64
		}
		d.Crash(api.Loss{Keep: keep, Torn: 129, Offset: 1})
		image := make([]byte, writes*512)
		for i := range min(64*words, writes) {
			copy(image[i*512:], full('a'))
		}
		image[129*512] = 'a'
		wantImage(t, "Words: of numbers that Keep doesn't have, none", d, image)
	}
}

func TestTornAtEveryOffset(t *testing.T) {
	for offset := range 513 {
		d := loaded(t, filled("a"))
		d.Write(0, full('b'))
		d.Write(0, full('c'))
		d.Write(0, full('d'))
		d.Crash(api.Loss{Keep: []uint64{1}, Torn: 1, Offset: offset})
		wantImage(t, "Words: the rest stays as it is by then", d, append(full('c')[:offset:offset], full('b')[offset:]...))
	}
}

func TestTornIsCoveredByALaterOneThatIsKept(t *testing.T) {
	d := loaded(t, filled("a"))
	d.Write(0, full('b'))
	d.Write(0, full('c'))
	d.Crash(api.Loss{Keep: []uint64{2}, Torn: 0, Offset: 100})
	wantImage(t, "Words: write by write in their order", d, filled("c"))
}

func TestTheWriteThatCrashesIsTheLastPendingOne(t *testing.T) {
	for _, c := range []struct {
		loss api.Loss
		want string
	}{
		{api.Loss{Torn: -1}, "...."},
		{api.Loss{Keep: []uint64{1}, Torn: -1}, "aa.."},
		{api.Loss{Keep: []uint64{2}, Torn: -1}, "..bb"},
		{api.Loss{Keep: []uint64{3}, Torn: -1}, "aabb"},
		{api.Loss{Keep: []uint64{1}, Torn: 1, Offset: 7}, "aab."},
		{api.Loss{Torn: 2, Offset: 7}, "...."},
	} {
		d := made(t, 2)
		d.Write(0, full('a'))
		d.Arm(1, c.loss)
		want(t, "P3.4: the Write that crashes", d.Write(1, full('b')), api.ErrDown)
		if got := ends(d.Image()); got != c.want || !d.Down() || len(d.Cache()) != 0 || d.Calls() != 2 {
			t.Errorf("Words: with %v it leaves %s, want %s", c.loss, got, c.want)
		}
	}
}

// TestCrashChangesOnlyWhatIsPending holds P3.10 by itself, whatever is lost.
func TestCrashChangesOnlyWhatIsPending(t *testing.T) {
	for run := range 300 {
		r := drawn(1000 + run)
		image := bytes.Join([][]byte{drawnSector(r), drawnSector(r), drawnSector(r), drawnSector(r)}, nil)
		d := loaded(t, image)
		for range r.IntN(8) {
			d.Write(r.IntN(3), drawnSector(r))
		}
		cache := d.Cache()
		d.Crash(drawnLoss(r, len(cache)))
		after := d.Image()
		for at, x := range after {
			may := x == image[at]
			for _, w := range cache {
				may = may || w.Sector == at/512 && x == w.Bytes[at%512]
			}
			if !may {
				t.Fatalf("P3.10: byte %d of the image is neither of before nor of a pending write", at)
			}
		}
	}
}

// TestBehindACrashTheImageIsAll runs the same calls on a device behind a crash and on one that is loaded with its image.
func TestBehindACrashTheImageIsAll(t *testing.T) {
	for run := range 60 {
		r := drawn(2000 + run)
		d := made(t, 1+r.IntN(4))
		m := newModel(d.Image())
		for range 20 {
			drawnCall(r, d, m)
		}
		if r.IntN(2) == 0 {
			d.Arm(1+r.IntN(3), api.Loss{})
		}
		d.Crash(drawnLoss(r, 4))
		d.Up()
		other := loaded(t, d.Image())
		before := d.Calls()
		ofOne, ofOther := drawn(3000+run), drawn(3000+run)
		m, m2 := newModel(d.Image()), newModel(d.Image())
		for range 40 {
			_, got, _ := drawnCall(ofOne, d, m)
			name, want, _ := drawnCall(ofOther, other, m2)
			if got != want || d.Down() != other.Down() || d.Sectors() != other.Sectors() || d.Calls()-before != other.Calls() {
				t.Fatalf("P3.11: %s = %d behind a crash, %d behind Load", name, got, want)
			}
			wantImage(t, "P3.11", d, other.Image())
			checkCache(t, d.Cache(), other.Cache())
		}
	}
}
