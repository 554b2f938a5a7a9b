package master_test

import (
	"bytes"
	"math"
	"math/rand/v2"
	"testing"

	"quota/api"
	"quota/master"
	"quota/sectors"
)

// small: the least shape, which needs 13 sectors.
var small = api.Shape{Pages: 2, Log: 4, Frames: 2}

// drawn: numbers that look drawn but are the same in every run.
func drawn() *rand.Rand { return rand.New(rand.NewPCG(4, 0)) }

func made(t *testing.T, n int) *sectors.Device {
	t.Helper()
	d, e := sectors.New(n)
	if e != api.OK {
		t.Fatalf("New(%d) = %d", n, e)
	}
	return d
}

func loaded(t *testing.T, image []byte) *sectors.Device {
	t.Helper()
	d, e := sectors.Load(image)
	if e != api.OK {
		t.Fatalf("Load of %d bytes = %d", len(image), e)
	}
	return d
}

// formatted: a disk of that shape, with what Format has made.
func formatted(t *testing.T, s api.Shape) *sectors.Device {
	t.Helper()
	d := made(t, 5+2*s.Pages+s.Log)
	wantErr(t, "P4.3", "Format", master.Format(d, s), api.OK)
	return d
}

// wantErr: nil, or a Fault of the call around the number itself.
func wantErr(t *testing.T, what, call string, err error, e api.Errno) {
	t.Helper()
	if e == api.OK {
		if err != nil {
			t.Errorf("%s: %s = %v, want nil", what, call, err)
		}
		return
	}
	f, ok := err.(*api.Fault)
	if !ok || f == nil || *f != (api.Fault{Call: call, At: 0, Err: e}) {
		t.Errorf("%s: %s = %v, want a Fault of %s at 0 around %d", what, call, err, call, e)
	}
}

func wantOpen(t *testing.T, what string, d *sectors.Device, shape api.Shape, point int) {
	t.Helper()
	s, p, err := master.Open(d)
	if s != shape || p != point || err != nil {
		t.Errorf("%s: Open = %v, %d, %v, want %v, %d", what, s, p, err, shape, point)
	}
}

func wantNoOpen(t *testing.T, what string, d *sectors.Device, e api.Errno) {
	t.Helper()
	s, p, err := master.Open(d)
	wantErr(t, what, "Open", err, e)
	if s != (api.Shape{}) || p != 0 {
		t.Errorf("%s: Open = %v, %d beside an error", what, s, p)
	}
}

func wantSector(t *testing.T, what string, d *sectors.Device, i int, want []byte) {
	t.Helper()
	if got := d.Image()[512*i : 512*i+512]; !bytes.Equal(got, want) {
		t.Errorf("%s: sector %d is % x .. %x, want % x .. %x", what, i, got[:20], got[511], want[:20], want[511])
	}
}

// slotOf: a slot's bytes, each laid where the chapter says.
func slotOf(stamp uint64, s api.Shape, point int) []byte {
	b := make([]byte, 512)
	b[0] = 0x4d
	for i := range 8 {
		b[1+i] = byte(stamp >> (8 * i))
	}
	b[9], b[10], b[11], b[12] = byte(s.Pages), byte(s.Log%256), byte(s.Log/256), byte(s.Frames)
	for i := range 4 {
		b[13+i] = byte(point >> (8 * i))
	}
	b[511] = b[1]
	return b
}

func TestExamples(t *testing.T) {
	wantErr(t, "P4.3: no disk", "Format", master.Format(nil, small), api.ErrHandle)
	wantErr(t, "P4.3: 12 sectors", "Format", master.Format(made(t, 12), small), api.ErrLimits)
	d := made(t, 13)
	wantNoOpen(t, "P4.4: zeros", d, api.ErrMaster)
	wantErr(t, "P4.3", "Format", master.Format(d, small), api.OK)
	first := make([]byte, 512)
	copy(first, []byte{0x4d, 1, 0, 0, 0, 0, 0, 0, 0, 2, 4, 0, 2, 0, 0, 0, 0})
	first[511] = 1
	wantSector(t, "P4.3", d, 0, make([]byte, 512))
	wantSector(t, "P4.3", d, 1, first)
	wantOpen(t, "P4.4", d, small, 0)
	wantErr(t, "P4.5", "Point", master.Point(d, 7), api.OK)
	second := make([]byte, 512)
	copy(second, []byte{0x4d, 2, 0, 0, 0, 0, 0, 0, 0, 2, 4, 0, 2, 7, 0, 0, 0})
	second[511] = 2
	wantSector(t, "P4.5", d, 0, second)
	wantSector(t, "P4.5", d, 1, first)
	wantOpen(t, "P4.4", d, small, 7)
	d.Arm(1, api.Loss{Torn: 0, Offset: 300})
	wantErr(t, "P4.5: torn", "Point", master.Point(d, 9), api.ErrDown)
	d.Up()
	wantOpen(t, "P4.6", d, small, 7)
	wantErr(t, "P4.5", "Point", master.Point(d, -1), api.ErrPlace)
	wantErr(t, "P4.5", "Point", master.Point(d, api.MaxLSN+1), api.ErrPlace)

	other := made(t, 13)
	second[511] = 3
	other.Write(0, second)
	wantNoOpen(t, "P4.4: another last byte", other, api.ErrMaster)
}

// noShapes: one number out of its bounds, just so or far.
func noShapes() []api.Shape {
	out := []api.Shape{{}, {Pages: math.MinInt, Log: math.MinInt, Frames: math.MinInt}, {Pages: math.MaxInt, Log: math.MaxInt, Frames: math.MaxInt}, {Pages: 4, Log: 2, Frames: 4}}
	for _, n := range []int{math.MinInt, -4, -1, 0, 1, 65, 256 + 2, 1<<62 + 2, 1<<63 - 1} {
		out = append(out, api.Shape{Pages: n, Log: 4, Frames: 2}, api.Shape{Pages: n, Log: 4096, Frames: 16})
	}
	for _, n := range []int{math.MinInt, -8, -1, 0, 1, 2, 3, 4097, 65536 + 4, 1<<62 + 4, 1<<63 - 1} {
		out = append(out, api.Shape{Pages: 2, Log: n, Frames: 2}, api.Shape{Pages: 64, Log: n, Frames: 16})
	}
	for _, n := range []int{math.MinInt, -2, -1, 0, 1, 17, 256 + 2, 1<<62 + 2, 1<<63 - 1} {
		out = append(out, api.Shape{Pages: 2, Log: 4, Frames: n}, api.Shape{Pages: 64, Log: 4096, Frames: n})
	}
	return append(out, api.Shape{Pages: -1 << 62, Log: 1<<62 + 8, Frames: 2}, api.Shape{Pages: 1, Log: 6, Frames: 2})
}

// shapes: the edges of every number with those of the others, and some between.
func shapes() []api.Shape {
	d := drawn()
	var out []api.Shape
	for _, p := range []int{2, 3, 4, 63, 64} {
		for _, l := range []int{4, 5, 255, 256, 257, 4095, 4096} {
			for _, f := range []int{2, 3, 15, 16} {
				out = append(out, api.Shape{Pages: p, Log: l, Frames: f})
			}
		}
	}
	for range 60 {
		out = append(out, api.Shape{Pages: 2 + d.IntN(63), Log: 4 + d.IntN(4093), Frames: 2 + d.IntN(15)})
	}
	return out
}

func TestShapesThatMayNotBe(t *testing.T) {
	for _, s := range noShapes() {
		if n, e := master.Need(s); n != 0 || e != api.ErrLimits {
			t.Errorf("P4.2: Need(%v) = %d, %d, want ErrLimits", s, n, e)
		}
		if n, e := master.Log(s); n != 0 || e != api.ErrLimits {
			t.Errorf("P4.2: Log(%v) = %d, %d, want ErrLimits", s, n, e)
		}
		for _, page := range []int{math.MinInt, -1, 0, 1, 100, math.MaxInt} {
			if n, e := master.Home(s, page); n != 0 || e != api.ErrLimits {
				t.Errorf("P4.2: Home(%v, %d) = %d, %d, want ErrLimits ahead of ErrPlace", s, page, n, e)
			}
		}
		d := made(t, 13)
		wantErr(t, "P4.3: a shape that may not be", "Format", master.Format(d, s), api.ErrLimits)
		if d.Calls() != 0 {
			t.Errorf("P4.3: Format of %v writes", s)
		}
	}
}

func TestLayout(t *testing.T) {
	for _, s := range shapes() {
		at := 5
		for page := range s.Pages {
			if n, e := master.Home(s, page); n != at || e != api.OK {
				t.Errorf("P4.8: Home(%v, %d) = %d, %d, want %d", s, page, n, e, at)
			}
			at += 2
		}
		for _, page := range []int{math.MinInt, -1 << 62, -s.Pages, -1, s.Pages, s.Pages + 1, 1 << 62, math.MaxInt} {
			if n, e := master.Home(s, page); n != 0 || e != api.ErrPlace {
				t.Errorf("P4.2: Home(%v, %d) = %d, %d, want ErrPlace", s, page, n, e)
			}
		}
		if n, e := master.Log(s); n != at || e != api.OK {
			t.Errorf("P4.8: Log(%v) = %d, %d, want %d", s, n, e, at)
		}
		if n, e := master.Need(s); n != at+s.Log || n != 5+2*s.Pages+s.Log || e != api.OK {
			t.Errorf("P4.8: Need(%v) = %d, %d, want %d", s, n, e, at+s.Log)
		}
	}
}

func TestFormatOfEveryShape(t *testing.T) {
	for _, s := range shapes() {
		d := formatted(t, s)
		wantSector(t, "P4.3", d, 0, make([]byte, 512))
		wantSector(t, "P4.3", d, 1, slotOf(1, s, 0))
		wantOpen(t, "P4.4", d, s, 0)
		wantErr(t, "P4.5", "Point", master.Point(d, 1<<24+258), api.OK)
		wantSector(t, "P4.5", d, 0, slotOf(2, s, 1<<24+258))
		wantOpen(t, "P4.4", d, s, 1<<24+258)
	}
}

func TestFormatOfAnotherSize(t *testing.T) {
	for _, n := range []int{1, 2, 5, 11, 12, 14, 15, 8192} {
		d := made(t, n)
		wantErr(t, "P4.3: another size", "Format", master.Format(d, small), api.ErrLimits)
		if d.Calls() != 0 || len(d.Cache()) != 0 {
			t.Errorf("P4.3: a Format that is refused writes to a disk of %d sectors", n)
		}
		d.Crash(api.Loss{})
		wantErr(t, "P4.3: another size, down", "Format", master.Format(d, small), api.ErrLimits)
	}
}

func TestNoDiskComesFirst(t *testing.T) {
	for _, s := range append(noShapes(), shapes()...) {
		wantErr(t, "P4.3: no disk", "Format", master.Format(nil, s), api.ErrHandle)
	}
	for _, lsn := range []int{math.MinInt, -1, 0, 1, api.MaxLSN, api.MaxLSN + 1, math.MaxInt} {
		wantErr(t, "P4.5: no disk", "Point", master.Point(nil, lsn), api.ErrHandle)
	}
	wantNoOpen(t, "P4.4: no disk", nil, api.ErrHandle)
}

func TestOfADiskThatIsDown(t *testing.T) {
	for _, d := range []*sectors.Device{formatted(t, small), made(t, 13)} {
		d.Crash(api.Loss{})
		image, calls := d.Image(), d.Calls()
		wantErr(t, "P4.3: down", "Format", master.Format(d, small), api.ErrDown)
		wantNoOpen(t, "P4.4: down", d, api.ErrDown)
		for _, lsn := range []int{0, 1, api.MaxLSN} {
			wantErr(t, "P4.5: down", "Point", master.Point(d, lsn), api.ErrDown)
		}
		for _, lsn := range []int{math.MinInt, -1, api.MaxLSN + 1, math.MaxInt} {
			wantErr(t, "P4.5: down, and no LSN", "Point", master.Point(d, lsn), api.ErrPlace)
		}
		if !bytes.Equal(d.Image(), image) || d.Calls() != calls || !d.Down() {
			t.Error("P4.3: something was done to a disk that is down")
		}
	}
	one := made(t, 1)
	one.Crash(api.Loss{})
	wantNoOpen(t, "P4.4: one sector, down", one, api.ErrDown)
}

func TestDisksTooSmallForAMaster(t *testing.T) {
	for n := 1; n <= 12; n++ {
		d := made(t, n)
		wantNoOpen(t, "P4.4: too small", d, api.ErrMaster)
		d.Write(0, slotOf(2, small, 1))
		d.Write(1, slotOf(1, small, 1))
		wantNoOpen(t, "P4.4: too small", d, api.ErrMaster)
		wantErr(t, "P4.5: too small", "Point", master.Point(d, 1), api.ErrMaster)
	}
}

func TestPointsThatMayBe(t *testing.T) {
	d := formatted(t, small)
	stamp := uint64(1)
	for _, lsn := range []int{1, 0, 255, 256, 65535, 65536, 1<<24 - 1, 1 << 24, api.MaxLSN - 1, api.MaxLSN, 0, 0} {
		calls := d.Calls()
		other := d.Image()[512*(stamp%2) : 512*(stamp%2)+512]
		wantErr(t, "P4.5", "Point", master.Point(d, lsn), api.OK)
		stamp++
		wantSector(t, "P4.5", d, int(stamp%2), slotOf(stamp, small, lsn))
		wantSector(t, "P4.5: the other", d, int(1-stamp%2), other)
		wantOpen(t, "P4.4", d, small, lsn)
		if d.Calls() != calls+2 || len(d.Cache()) != 0 {
			t.Errorf("P4.5: Point(%d) makes %d changing calls, %d pending", lsn, d.Calls()-calls, len(d.Cache()))
		}
	}
}

func TestPointsThatMayNotBe(t *testing.T) {
	for _, d := range []*sectors.Device{formatted(t, small), made(t, 13)} {
		calls := d.Calls()
		for _, lsn := range []int{math.MinInt, -1 << 32, -api.MaxLSN, -1, api.MaxLSN + 1, 1 << 32, 1<<32 + 7, math.MaxInt} {
			wantErr(t, "P4.5: ahead of ErrMaster", "Point", master.Point(d, lsn), api.ErrPlace)
		}
		if d.Calls() != calls {
			t.Error("P4.5: a Point that is refused writes")
		}
	}
	d := made(t, 13)
	wantErr(t, "P4.5: no master", "Point", master.Point(d, 1), api.ErrMaster)
	if d.Calls() != 0 {
		t.Error("P4.5: a Point that is refused writes")
	}
}

func TestOpenReadsWhatWasWrittenLast(t *testing.T) {
	d := formatted(t, small)
	d.Write(0, slotOf(2, small, 5))
	wantOpen(t, "P4.4: in the cache", d, small, 5)
	d.Write(0, slotOf(4, small, 6))
	d.Write(1, slotOf(3, small, 7))
	wantOpen(t, "P4.4: in the cache", d, small, 6)
	if d.Calls() != 4+3 || len(d.Cache()) != 3 {
		t.Errorf("P4.4: Open writes: %d calls, %d pending", d.Calls(), len(d.Cache()))
	}
	d.Write(0, make([]byte, 512))
	wantOpen(t, "P4.4: zeros in the cache", d, small, 7)
	d.Crash(api.Loss{})
	d.Up()
	wantOpen(t, "P4.4: lost", d, small, 0)
}

// scratched: a disk of that shape on which all sectors have bytes, two with pending writes of their own.
func scratched(t *testing.T, s api.Shape) *sectors.Device {
	t.Helper()
	image := make([]byte, 512*(5+2*s.Pages+s.Log))
	for i := range image {
		image[i] = byte(i*7 + i/512 + 1)
	}
	d := loaded(t, image)
	d.Write(2, bytes.Repeat([]byte{0xaa}, 512))
	d.Write(12, bytes.Repeat([]byte{0xbb}, 512))
	return d
}

func TestNothingElseIsChanged(t *testing.T) {
	for _, s := range []api.Shape{small, {Pages: 3, Log: 9, Frames: 16}, {Pages: 64, Log: 4096, Frames: 2}} {
		d := scratched(t, s)
		want := contents(t, d)
		wantNoOpen(t, "P4.4: nothing right", d, api.ErrMaster)
		wantErr(t, "P4.5: nothing right", "Point", master.Point(d, 3), api.ErrMaster)
		for i, got := range contents(t, d) {
			if !bytes.Equal(got, want[i]) {
				t.Errorf("P4.7: a call that is refused changes sector %d", i)
			}
		}
		wantErr(t, "P4.3", "Format", master.Format(d, s), api.OK)
		for lsn := range 9 {
			wantErr(t, "P4.5", "Point", master.Point(d, lsn), api.OK)
			wantOpen(t, "P4.4", d, s, lsn)
		}
		for i, got := range contents(t, d) {
			if i > 1 && !bytes.Equal(got, want[i]) {
				t.Errorf("P4.7: sector %d is changed", i)
			}
		}
	}
}

func contents(t *testing.T, d *sectors.Device) [][]byte {
	t.Helper()
	var out [][]byte
	for i := range d.Sectors() {
		b, e := d.Read(i)
		if e != api.OK {
			t.Fatalf("Read(%d) = %d", i, e)
		}
		out = append(out, b)
	}
	return out
}
