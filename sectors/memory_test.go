package sectors_test

import (
	"bytes"
	"testing"

	"quota/api"
)

// roomy: b with spare room behind it, all of it the second answer.
func roomy(b []byte) (part, whole []byte) {
	whole = append(bytes.Clone(b), bytes.Repeat([]byte{0xee}, 700)...)
	return whole[:len(b):len(whole)], whole
}

// scribble writes into all of b, spare room too.
func scribble(b []byte) {
	b = b[:cap(b)]
	for i := range b {
		b[i] = 0x55
	}
}

func TestWhatIsHandedInIsNeitherChangedNorKept(t *testing.T) {
	image, wholeImage := roomy(filled("ab"))
	sector, wholeSector := roomy(full('c'))
	words := []uint64{2, 9, 9, 9}
	before := bytes.Clone(wholeImage)
	beforeSector := bytes.Clone(wholeSector)

	d := loaded(t, image)
	d.Write(0, sector)
	d.Write(1, full('d'))
	d.Arm(1, api.Loss{Keep: words[:1], Torn: -1})
	if !bytes.Equal(wholeImage, before) || !bytes.Equal(wholeSector, beforeSector) || words[0] != 2 || words[1] != 9 {
		t.Fatal("P3.1: what was handed in has been changed")
	}
	scribble(image)
	scribble(sector)
	words[0] = 1
	wantRead(t, "P3.1: a write's bytes are not kept", d, 0, full('c'))
	wantImage(t, "P3.1: an image is not kept", d, filled("ab"))
	d.Sync()
	wantImage(t, "P3.1: a loss's Keep is not kept", d, filled("ad"))
	if words[0] != 1 || words[1] != 9 || wholeImage[0] != 0x55 || wholeSector[0] != 0x55 {
		t.Error("P3.1: what was handed in has been changed later")
	}
}

func TestCrashLeavesItsLossAlone(t *testing.T) {
	d := loaded(t, filled("ab"))
	d.Write(0, full('c'))
	words := []uint64{1, 5, 7}
	d.Crash(api.Loss{Keep: words[:1], Torn: 0, Offset: 900})
	if words[0] != 1 || words[1] != 5 || words[2] != 7 {
		t.Errorf("P3.1: Crash has changed Keep: %v", words)
	}
}

func TestWhatIsHandedOutIsNewMemory(t *testing.T) {
	d := loaded(t, filled("ab"))
	d.Write(0, full('c'))
	d.Write(0, full('d'))
	for range 2 {
		pending, _ := d.Read(0)
		durable, _ := d.Read(1)
		image := d.Image()
		cache := d.Cache()
		for _, b := range [][]byte{pending, durable, image, cache[0].Bytes} {
			scribble(b)
		}
		if !bytes.Equal(cache[1].Bytes, full('d')) {
			t.Fatal("P3.1: two pending writes' bytes share memory")
		}
		scribble(cache[1].Bytes)
		cache = cache[:cap(cache)]
		for k := range cache {
			cache[k] = api.Pending{Sector: 1}
		}
		wantCache(t, "P3.1", d, "0c0d")
		wantImage(t, "P3.1", d, filled("ab"))
		wantRead(t, "P3.1", d, 0, full('d'))
		wantRead(t, "P3.1", d, 1, full('b'))
	}
}

func TestWhatWasHandedOutStaysAsItIs(t *testing.T) {
	d := loaded(t, filled("ab"))
	d.Write(0, full('c'))
	pending, _ := d.Read(0)
	durable, _ := d.Read(1)
	image, cache := d.Image(), d.Cache()
	spare := cache[len(cache):cap(cache)]
	d.Write(1, full('e'))
	d.Write(0, full('f'))
	d.Sync()
	d.Write(1, full('g'))
	d.Crash(api.Loss{Torn: 0, Offset: 5})
	if !bytes.Equal(pending, full('c')) || !bytes.Equal(durable, full('b')) || !bytes.Equal(image, filled("ab")) {
		t.Error("P3.1: bytes that were handed out have changed")
	}
	if len(cache) != 1 || cache[0].Sector != 0 || !bytes.Equal(cache[0].Bytes, full('c')) {
		t.Error("P3.1: a cache that was handed out has changed")
	}
	for _, w := range spare {
		if w.Bytes != nil {
			t.Error("P3.1: the device writes into the spare room of a cache that was handed out")
		}
	}
}
