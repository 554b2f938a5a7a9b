package sectors_test

import (
	"bytes"
	"math"
	"testing"

	"quota/api"
	"quota/sectors"
)

// full: a sector full of a letter; '0' is for zeros.
func full(c byte) []byte {
	if c == '0' {
		c = 0
	}
	return bytes.Repeat([]byte{c}, 512)
}

// filled: an image whose sectors are full of these letters.
func filled(letters string) []byte {
	var out []byte
	for _, c := range []byte(letters) {
		out = append(out, full(c)...)
	}
	return out
}

func made(t *testing.T, n int) *sectors.Device {
	t.Helper()
	d, e := sectors.New(n)
	if d == nil || e != api.OK {
		t.Fatalf("P3.2: New(%d) = %v, %d", n, d, e)
	}
	return d
}

func loaded(t *testing.T, image []byte) *sectors.Device {
	t.Helper()
	d, e := sectors.Load(image)
	if d == nil || e != api.OK {
		t.Fatalf("P3.2: Load of %d bytes = %v, %d", len(image), d, e)
	}
	return d
}

func want(t *testing.T, what string, got, want api.Errno) {
	t.Helper()
	if got != want {
		t.Errorf("%s = %d, want %d", what, got, want)
	}
}

func wantImage(t *testing.T, what string, d *sectors.Device, image []byte) {
	t.Helper()
	if got := d.Image(); !bytes.Equal(got, image) {
		t.Errorf("%s: the image differs from byte %d on", what, differs(got, image))
	}
}

// wantCache: the pending writes as sector and letter, one behind the other.
func wantCache(t *testing.T, what string, d *sectors.Device, writes string) {
	t.Helper()
	got := ""
	for _, w := range d.Cache() {
		if !bytes.Equal(w.Bytes, full(w.Bytes[0])) {
			t.Errorf("%s: a pending write is not full of one letter", what)
		}
		got += string(rune('0'+w.Sector)) + string(rune(w.Bytes[0]))
	}
	if got != writes {
		t.Errorf("%s: the cache is %q, want %q", what, got, writes)
	}
}

func wantRead(t *testing.T, what string, d *sectors.Device, i int, content []byte) {
	t.Helper()
	if got, e := d.Read(i); e != api.OK || !bytes.Equal(got, content) {
		t.Errorf("%s: Read(%d) = %.4q.., %d, want %.4q..", what, i, got, e, content)
	}
}

func TestExamples(t *testing.T) {
	for _, n := range []int{0, 8193} {
		if d, e := sectors.New(n); d != nil || e != api.ErrPlace {
			t.Errorf("P3.2: New(%d) = %v, %d", n, d, e)
		}
	}
	d := made(t, 3)
	want(t, "Write(1, a)", d.Write(1, full('a')), api.OK)
	want(t, "Write(1, b)", d.Write(1, full('b')), api.OK)
	wantRead(t, "two writes", d, 1, full('b'))
	wantImage(t, "two writes", d, filled("000"))
	wantCache(t, "two writes", d, "1a1b")
	want(t, "Write(3, a)", d.Write(3, full('a')), api.ErrSector)
	want(t, "Write(0, 511 bytes)", d.Write(0, full('a')[:511]), api.ErrData)
	if b, e := d.Read(-1); b != nil || e != api.ErrSector {
		t.Errorf("P3.3: Read(-1) = %v, %d", b, e)
	}
	want(t, "Crash", d.Crash(api.Loss{Keep: []uint64{1}, Torn: 1, Offset: 2}), api.OK)
	mixed := append([]byte("bb"), full('a')[2:]...)
	wantImage(t, "the crash", d, bytes.Join([][]byte{full('0'), mixed, full('0')}, nil))
	wantCache(t, "the crash", d, "")
	if b, e := d.Read(0); b != nil || e != api.ErrDown {
		t.Errorf("P3.3: Read of one that is down = %v, %d", b, e)
	}
	want(t, "Sync, down", d.Sync(), api.ErrDown)
	want(t, "Crash, down", d.Crash(api.Loss{}), api.ErrDown)
	want(t, "Arm, down", d.Arm(0, api.Loss{}), api.ErrDown)
	want(t, "Up", d.Up(), api.OK)
	want(t, "Write(0, c)", d.Write(0, full('c')), api.OK)
	want(t, "Sync", d.Sync(), api.OK)
	wantImage(t, "the sync", d, bytes.Join([][]byte{full('c'), mixed, full('0')}, nil))
	want(t, "Arm(2, ..)", d.Arm(2, api.Loss{Keep: []uint64{2}, Torn: 0, Offset: 600}), api.OK)
	want(t, "Write(0, a)", d.Write(0, full('a')), api.OK)
	want(t, "Write(2, b)", d.Write(2, full('b')), api.ErrDown)
	after := bytes.Join([][]byte{full('a'), mixed, full('b')}, nil)
	wantImage(t, "the write that crashes", d, after)
	want(t, "Up", d.Up(), api.OK)
	want(t, "Arm(1, ..)", d.Arm(1, api.Loss{Torn: -1}), api.OK)
	want(t, "Sync, armed", d.Sync(), api.ErrDown)
	want(t, "Up", d.Up(), api.OK)
	want(t, "Arm(-1, ..)", d.Arm(-1, api.Loss{}), api.ErrPlace)
	want(t, "Arm(1, ..)", d.Arm(1, api.Loss{}), api.OK)
	want(t, "Arm(0, ..)", d.Arm(0, api.Loss{}), api.OK)
	want(t, "Sync", d.Sync(), api.OK)
	wantImage(t, "the end", d, after)
	if d.Calls() != 8 {
		t.Errorf("P3.6: Calls() = %d, want 8", d.Calls())
	}
}

func TestNewAtItsBounds(t *testing.T) {
	for _, n := range []int{math.MinInt, -8192, -1, 0, 8193, 1 << 40, math.MaxInt/512 + 2, math.MaxInt} {
		if d, e := sectors.New(n); d != nil || e != api.ErrPlace {
			t.Errorf("P3.2: New(%d) = %v, %d, want ErrPlace", n, d != nil, e)
		}
	}
	for _, n := range []int{1, 2, 8191, 8192} {
		checkNew(t, made(t, n), make([]byte, 512*n))
	}
}

func TestLoadAtItsBounds(t *testing.T) {
	for _, n := range []int{0, 1, 511, 513, 1023, 1025, 8192*512 - 1, 8192*512 + 1, 8193 * 512} {
		if d, e := sectors.Load(make([]byte, n)); d != nil || e != api.ErrImage {
			t.Errorf("P3.2: Load of %d bytes = %v, %d, want ErrImage", n, d != nil, e)
		}
	}
	if d, e := sectors.Load(nil); d != nil || e != api.ErrImage {
		t.Errorf("P3.2: Load(nil) = %v, %d, want ErrImage", d != nil, e)
	}
	for _, n := range []int{1, 2, 8191, 8192} {
		image := make([]byte, 512*n)
		for i := range image {
			image[i] = byte(i*7 + i/512)
		}
		checkNew(t, loaded(t, image), image)
	}
}

// checkNew: a new device runs, is not armed and has taken no calls; its last sector can be had.
func checkNew(t *testing.T, d *sectors.Device, image []byte) {
	t.Helper()
	n := len(image) / 512
	wantImage(t, "P3.2", d, image)
	if d.Sectors() != n || d.Calls() != 0 || d.Down() || len(d.Cache()) != 0 {
		t.Errorf("P3.2: of %d sectors: Sectors, Calls, Down = %d, %d, %v, %d pending", n, d.Sectors(), d.Calls(), d.Down(), len(d.Cache()))
	}
	wantRead(t, "P3.2", d, n-1, image[512*(n-1):])
	want(t, "P3.4: Write of the last sector", d.Write(n-1, full('z')), api.OK)
	wantRead(t, "P3.4", d, n-1, full('z'))
	want(t, "P3.4: Write behind it", d.Write(n, full('z')), api.ErrSector)
	want(t, "P3.5: Sync", d.Sync(), api.OK)
	wantImage(t, "P3.5", d, append(image[:512*(n-1):512*(n-1)], full('z')...))
}

func TestPlacesThatAreNone(t *testing.T) {
	d := loaded(t, filled("abc"))
	for _, i := range []int{math.MinInt, -3, -1, 3, 4, 8192, 1 << 55, math.MaxInt/512 + 1, math.MaxInt} {
		if b, e := d.Read(i); b != nil || e != api.ErrSector {
			t.Errorf("P3.3: Read(%d) = %v, %d, want ErrSector", i, b != nil, e)
		}
		want(t, "P3.4: Write elsewhere", d.Write(i, full('x')), api.ErrSector)
		want(t, "P3.4: Write elsewhere, of no sector", d.Write(i, nil), api.ErrSector)
	}
	wantImage(t, "P3.4", d, filled("abc"))
	wantCache(t, "P3.4", d, "")
}

func TestWriteOfNoWholeSector(t *testing.T) {
	d := loaded(t, filled("abc"))
	for _, n := range []int{0, 1, 511, 513, 1024} {
		want(t, "P3.4: Write of other bytes", d.Write(1, make([]byte, n)), api.ErrData)
	}
	want(t, "P3.4: Write of nil", d.Write(1, nil), api.ErrData)
	want(t, "P3.4: Write of 511 bytes of more", d.Write(1, make([]byte, 511, 512)), api.ErrData)
	wantCache(t, "P3.4", d, "")
	wantRead(t, "P3.4", d, 1, full('b'))
}

func TestRefusedCallsAreNoChangingOnes(t *testing.T) {
	d := loaded(t, filled("abc"))
	want(t, "Arm", d.Arm(2, api.Loss{Torn: -1}), api.OK)
	d.Write(-1, full('x'))
	d.Write(3, full('x'))
	d.Write(0, nil)
	d.Read(0)
	d.Read(9)
	d.Arm(-1, api.Loss{})
	d.Image()
	d.Cache()
	if d.Calls() != 0 || d.Down() {
		t.Fatalf("P3.6: Calls() = %d, Down() = %v behind calls that change nothing", d.Calls(), d.Down())
	}
	want(t, "P3.7: the first changing call", d.Write(0, full('x')), api.OK)
	want(t, "P3.7: the second", d.Sync(), api.ErrDown)
	if d.Calls() != 2 {
		t.Errorf("P3.6: Calls() = %d, want 2: the one that crashed too", d.Calls())
	}
	d.Write(0, full('x'))
	d.Sync()
	d.Crash(api.Loss{})
	if d.Calls() != 2 {
		t.Errorf("P3.6: Calls() = %d, want 2: those of one that is down are refused", d.Calls())
	}
	d.Up()
	d.Crash(api.Loss{})
	if d.Calls() != 2 {
		t.Errorf("P3.6: Calls() = %d, want 2: Up and Crash are no changing calls", d.Calls())
	}
}

func TestDownComesFirst(t *testing.T) {
	d := loaded(t, filled("ab"))
	d.Write(0, full('x'))
	want(t, "P3.8: Crash", d.Crash(api.Loss{Torn: -1}), api.OK)
	for _, i := range []int{math.MinInt, -1, 0, 1, 2} {
		if b, e := d.Read(i); b != nil || e != api.ErrDown {
			t.Errorf("P3.3: Read(%d), down = %v, %d", i, b != nil, e)
		}
		want(t, "P3.4: Write, down", d.Write(i, full('x')), api.ErrDown)
		want(t, "P3.4: Write of no sector, down", d.Write(i, nil), api.ErrDown)
	}
	want(t, "P3.5: Sync, down", d.Sync(), api.ErrDown)
	for _, step := range []int{-1, 0, 1} {
		want(t, "P3.7: Arm, down", d.Arm(step, api.Loss{Keep: []uint64{1}}), api.ErrDown)
	}
	want(t, "P3.8: Crash, down", d.Crash(api.Loss{Keep: []uint64{1}}), api.ErrDown)
	wantImage(t, "P3.8", d, filled("ab"))
	if !d.Down() || d.Sectors() != 2 || d.Calls() != 1 {
		t.Errorf("P3.6: Down, Sectors, Calls = %v, %d, %d", d.Down(), d.Sectors(), d.Calls())
	}
}

func TestSyncGoesInOrder(t *testing.T) {
	d := loaded(t, filled("000"))
	for i, x := range []byte("abc") {
		d.Write(2-i, full(x))
	}
	d.Write(1, full('d'))
	d.Write(2, full('e'))
	wantCache(t, "P3.6", d, "2a1b0c1d2e")
	wantRead(t, "P3.3", d, 1, full('d'))
	wantImage(t, "P3.4", d, filled("000"))
	want(t, "P3.5: Sync", d.Sync(), api.OK)
	wantImage(t, "P3.5", d, filled("cde"))
	wantCache(t, "P3.5", d, "")
	want(t, "P3.5: Sync of nothing", d.Sync(), api.OK)
	if d.Calls() != 7 {
		t.Errorf("P3.6: Calls() = %d, want 7: a Sync of nothing is one too", d.Calls())
	}
}

func TestArmedStepIsCountedFromNow(t *testing.T) {
	for step := 1; step <= 6; step++ {
		d := loaded(t, filled("0"))
		d.Write(0, full('a'))
		d.Sync()
		want(t, "P3.7: Arm", d.Arm(step, api.Loss{Torn: -1}), api.OK)
		for k := 1; k <= 8; k++ {
			is, e := api.OK, api.OK
			if k >= step {
				is = api.ErrDown
			}
			if k%3 == 0 {
				e = d.Sync()
			} else {
				e = d.Write(0, full('b'))
			}
			if e != is || d.Down() != (k >= step) {
				t.Errorf("P3.7: armed with %d, call %d = %d, down %v", step, k, e, d.Down())
			}
		}
		if d.Calls() != 2+step {
			t.Errorf("P3.6: armed with %d: Calls() = %d", step, d.Calls())
		}
	}
}

func TestGreatestStepNeverComes(t *testing.T) {
	d := made(t, 1)
	d.Write(0, full('a'))
	want(t, "P3.7: Arm", d.Arm(math.MaxInt, api.Loss{}), api.OK)
	for range 100 {
		want(t, "P3.7: Sync", d.Sync(), api.OK)
	}
	want(t, "P3.7: Arm below 0", d.Arm(math.MinInt, api.Loss{}), api.ErrPlace)
	want(t, "P3.7: Sync", d.Sync(), api.OK)
}

func TestArmForgetsTheEarlierOne(t *testing.T) {
	d := loaded(t, filled("0"))
	d.Arm(1, api.Loss{Keep: []uint64{1}, Torn: -1})
	want(t, "P3.7: Arm again", d.Arm(3, api.Loss{Torn: 1, Offset: 512}), api.OK)
	want(t, "P3.7: first", d.Write(0, full('a')), api.OK)
	want(t, "P3.7: second", d.Write(0, full('b')), api.OK)
	want(t, "P3.7: third", d.Write(0, full('c')), api.ErrDown)
	wantImage(t, "P3.7: the later loss", d, filled("b"))
	d.Up()
	d.Arm(2, api.Loss{Keep: []uint64{3}})
	want(t, "P3.7: Arm refused", d.Arm(-1, api.Loss{}), api.ErrPlace)
	want(t, "P3.7: first", d.Write(0, full('d')), api.OK)
	want(t, "P3.7: an Arm that is refused changes nothing", d.Write(0, full('e')), api.ErrDown)
	wantImage(t, "P3.7: the loss of the one that holds", d, filled("e"))
}

func TestNotArmedAnyMore(t *testing.T) {
	keep := api.Loss{Keep: []uint64{1}}
	for name, ends := range map[string]func(d *sectors.Device){
		"P3.7: Arm(0)":             func(d *sectors.Device) { d.Arm(0, api.Loss{Keep: []uint64{9}, Torn: 3}) },
		"P3.9: Up":                 func(d *sectors.Device) { d.Up() },
		"Words: a crash, then Up":  func(d *sectors.Device) { d.Crash(keep); d.Up() },
		"Words: its crash, and Up": func(d *sectors.Device) { d.Arm(1, keep); d.Sync(); d.Up() },
	} {
		d := made(t, 1)
		d.Arm(1, keep)
		ends(d)
		for range 4 {
			want(t, name+": Write", d.Write(0, full('a')), api.OK)
			want(t, name+": Sync", d.Sync(), api.OK)
		}
	}
}

func TestUp(t *testing.T) {
	d := loaded(t, filled("00"))
	d.Write(0, full('a'))
	d.Write(1, full('b'))
	want(t, "P3.9: Up of one that runs", d.Up(), api.OK)
	wantCache(t, "P3.9: the cache is as it was", d, "0a1b")
	d.Crash(api.Loss{Torn: -1})
	want(t, "P3.9: Up", d.Up(), api.OK)
	wantCache(t, "P3.9: the cache is empty", d, "")
	if d.Down() {
		t.Error("P3.9: it is down behind Up")
	}
	want(t, "P3.9: Sync behind Up", d.Sync(), api.OK)
	wantImage(t, "P3.9: nothing comes back", d, filled("00"))
}

func TestDevicesKnowNothingOfEachOther(t *testing.T) {
	image := filled("ab")
	a, b := loaded(t, image), loaded(t, image)
	a.Arm(1, api.Loss{})
	want(t, "P3.1: Write of the other", b.Write(0, full('c')), api.OK)
	b.Crash(api.Loss{Keep: []uint64{1}})
	if a.Down() || a.Calls() != 0 {
		t.Error("P3.1: a device has seen another's calls")
	}
	wantImage(t, "P3.1", a, filled("ab"))
	wantImage(t, "P3.1", b, filled("cb"))
}
