package twin_test

import (
	"bytes"
	"errors"
	"math"
	"math/rand/v2"
	"testing"

	"quota/api"
	"quota/sectors"
	"quota/twin"
)

func drawn() *rand.Rand { return rand.New(rand.NewPCG(8, 0)) }

func made(t *testing.T, n int) *sectors.Device {
	t.Helper()
	d, e := sectors.New(n)
	if e != api.OK {
		t.Fatalf("sectors.New(%d): %d", n, e)
	}
	return d
}

func loaded(t *testing.T, image []byte) *sectors.Device {
	t.Helper()
	d, e := sectors.Load(image)
	if e != api.OK {
		t.Fatalf("sectors.Load of %d bytes: %d", len(image), e)
	}
	return d
}

func half(c byte) []byte { return bytes.Repeat([]byte{c}, 512) }

func full(c byte) []byte { return bytes.Repeat([]byte{c}, 1024) }

// both: a page of two halves, so that one is not taken for the other.
func both(c, e byte) []byte { return append(half(c), half(e)...) }

// row: an image of sectors full of these letters, and of zeros where a dot stands.
func row(letters string) []byte {
	var out []byte
	for _, c := range []byte(letters) {
		if c == '.' {
			c = 0
		}
		out = append(out, half(c)...)
	}
	return out
}

// marker: of these numbers, the lowest first, and that last byte.
func marker(last byte, home ...byte) []byte {
	b := make([]byte, 512)
	copy(b, home)
	b[511] = last
	return b
}

func wantErr(t *testing.T, what, call string, err error, e api.Errno) {
	t.Helper()
	if e == api.OK {
		if err != nil {
			t.Errorf("%s: %s answers %v, want nil", what, call, err)
		}
		return
	}
	f, ok := err.(*api.Fault)
	if !ok || f == nil || f.Call != call || f.At != 0 || f.Err != error(e) {
		t.Errorf("%s: %s answers %v, want a Fault at 0 with %d", what, call, err, e)
	}
	if api.Code(err) != e || !errors.Is(err, e) {
		t.Errorf("%s: the number inside is %d, want %d", what, api.Code(err), e)
	}
}

func wantWrite(t *testing.T, what string, d *sectors.Device, at, home int, b []byte, e api.Errno) {
	t.Helper()
	wantErr(t, what, "Write", twin.Write(d, at, home, b), e)
}

func wantFinish(t *testing.T, what string, d *sectors.Device, at int, did bool, e api.Errno) {
	t.Helper()
	got, err := twin.Finish(d, at)
	wantErr(t, what, "Finish", err, e)
	if got != did {
		t.Errorf("%s: Finish answers %v, want %v", what, got, did)
	}
}

func wantRead(t *testing.T, what string, d *sectors.Device, home int, want []byte, e api.Errno) {
	t.Helper()
	b, err := twin.Read(d, home)
	wantErr(t, what, "Read", err, e)
	if !bytes.Equal(b, want) || e != api.OK && b != nil {
		t.Errorf("%s: Read(%d) answers other bytes than those", what, home)
	}
}

func wantCalls(t *testing.T, what string, d *sectors.Device, want int) {
	t.Helper()
	if d.Calls() != want {
		t.Errorf("%s: %d changing calls, want %d", what, d.Calls(), want)
	}
}

func wantImage(t *testing.T, what string, d *sectors.Device, want []byte) {
	t.Helper()
	if !bytes.Equal(d.Image(), want) {
		t.Errorf("%s: the image is another one", what)
	}
}

func TestWorkedExamples(t *testing.T) {
	d := made(t, 9)
	none := api.Loss{Torn: -1}
	wantWrite(t, "P8.2", nil, 2, 5, full('A'), api.ErrHandle)
	wantWrite(t, "P8.2", d, 2, 4, full('A'), api.ErrPlace)
	wantWrite(t, "P8.2", d, 2, 8, full('A'), api.ErrPlace)
	wantWrite(t, "P8.2", d, 7, 0, full('A'), api.ErrPlace)
	wantWrite(t, "P8.2", d, 2, 5, full('A')[:1023], api.ErrData)
	wantCalls(t, "P8.1: refused", d, 0)
	wantWrite(t, "P8.2", d, 2, 5, full('A'), api.OK)
	wantCalls(t, "P8.2", d, 10)
	wantRead(t, "P8.4", d, 5, full('A'), api.OK)
	wantRead(t, "P8.4", d, 7, full(0), api.OK)
	wantRead(t, "P8.4", d, 8, nil, api.ErrPlace)
	wantFinish(t, "P8.6", d, 2, false, api.OK)
	wantCalls(t, "P8.3", d, 10)
	d.Arm(5, none)
	wantWrite(t, "P8.2: the marker's Sync", d, 2, 5, full('B'), api.ErrDown)
	d.Up()
	wantFinish(t, "P8.5", d, 2, false, api.OK)
	wantRead(t, "P8.5", d, 5, full('A'), api.OK)
	d.Arm(7, api.Loss{Keep: []uint64{1}, Torn: -1})
	wantWrite(t, "P8.2: the home's second half", d, 2, 5, full('B'), api.ErrDown)
	d.Up()
	wantRead(t, "P8.4", d, 5, both('B', 'A'), api.OK)
	wantFinish(t, "P8.5", d, 2, true, api.OK)
	wantCalls(t, "P8.3", d, 10+5+7+5)
	wantRead(t, "P8.5", d, 5, full('B'), api.OK)
	d.Write(2, marker(0xa5))
	wantFinish(t, "P8.3: home 0", d, 2, true, api.OK)
	wantRead(t, "P8.3: home 0", d, 0, full('B'), api.OK)
	d.Write(2, marker(0x01))
	wantFinish(t, "P8.3: 01", d, 2, false, api.ErrTwin)
}

// among: is i one of count sectors from first on?
func among(i, first, count int) bool { return i >= first && i-first < count }

func disks(i, n int) bool { return i >= 0 && i < n }

func isTwin(at, n int) bool { return disks(at, n) && disks(at+1, n) && disks(at+2, n) }

func isPage(home, n int) bool { return disks(home, n) && disks(home+1, n) }

// isHome: of a twin that may be.
func isHome(at, home, n int) bool {
	return isPage(home, n) && !among(home, at, 3) && !among(home+1, at, 3)
}

// places: all about a disk of n sectors, and numbers far off.
func places(n int) []int {
	out := []int{math.MinInt, math.MinInt + 1, math.MinInt + 2, math.MinInt + 3, math.MinInt32, math.MaxInt32, 1 << 32, 1<<32 + 1, math.MaxInt - 3, math.MaxInt - 2, math.MaxInt - 1, math.MaxInt}
	for i := -4; i <= n+4; i++ {
		out = append(out, i)
	}
	return out
}

func TestWriteEverywhere(t *testing.T) {
	for n := 1; n <= 9; n++ {
		for _, at := range places(n) {
			for _, home := range places(n) {
				d := made(t, n)
				if !isTwin(at, n) || !isHome(at, home, n) {
					wantWrite(t, "P8.2", d, at, home, full('a'), api.ErrPlace)
					wantCalls(t, "P8.1: refused", d, 0)
					continue
				}
				wantWrite(t, "P8.2", d, at, home, both('a', 'b'), api.OK)
				want := make([]byte, 512*n)
				copy(want[512*at:], marker(0, byte(home)))
				copy(want[512*at+512:], both('a', 'b'))
				copy(want[512*home:], both('a', 'b'))
				wantImage(t, "P8.2", d, want)
				wantCalls(t, "P8.2", d, 10)
			}
		}
	}
}

func TestReadEverywhere(t *testing.T) {
	for n := 1; n <= 9; n++ {
		d := loaded(t, row("abcdefghi"[:n]))
		for _, home := range places(n) {
			if !isPage(home, n) {
				wantRead(t, "P8.4", d, home, nil, api.ErrPlace)
				continue
			}
			wantRead(t, "P8.4", d, home, both('a'+byte(home), 'b'+byte(home)), api.OK)
		}
		wantCalls(t, "P8.4", d, 0)
	}
}

func TestFinishEverywhere(t *testing.T) {
	for n := 1; n <= 9; n++ {
		d := made(t, n)
		for _, at := range places(n) {
			if isTwin(at, n) {
				wantFinish(t, "P8.3", d, at, false, api.OK)
			} else {
				wantFinish(t, "P8.3", d, at, false, api.ErrPlace)
			}
		}
		wantCalls(t, "P8.3", d, 0)
	}
}

func TestAPageHasItsSize(t *testing.T) {
	for _, size := range []int{0, 1, 511, 512, 513, 1022, 1023, 1025, 1536, 2048, 4096} {
		d := made(t, 9)
		wantWrite(t, "P8.2", d, 2, 5, make([]byte, size), api.ErrData)
		wantCalls(t, "P8.1: refused", d, 0)
	}
	wantWrite(t, "P8.2: no bytes", made(t, 9), 2, 5, nil, api.ErrData)
}

// TestTheFirstErrorIsTold: of each two that apply.
func TestTheFirstErrorIsTold(t *testing.T) {
	wantWrite(t, "P8.2: no disk, and no place", nil, -1, -1, nil, api.ErrHandle)
	wantFinish(t, "P8.3: no disk, and no place", nil, -1, false, api.ErrHandle)
	wantRead(t, "P8.4: no disk, and no place", nil, -1, nil, api.ErrHandle)
	d := made(t, 9)
	wantWrite(t, "P8.2: no twin, and no bytes", d, 7, 0, nil, api.ErrPlace)
	wantWrite(t, "P8.2: no home, and no bytes", d, 2, 8, nil, api.ErrPlace)
	wantWrite(t, "P8.2: a home in the twin, and no bytes", d, 2, 3, nil, api.ErrPlace)
	d.Write(7, marker(1))
	d.Write(2, marker(1))
	wantFinish(t, "P8.3: no twin, and no sense", d, 7, false, api.ErrPlace)
	d.Crash(api.Loss{Keep: []uint64{3}})
	wantWrite(t, "P8.2: down, and no twin", d, 7, 0, full('a'), api.ErrDown)
	wantWrite(t, "P8.2: down, and no home", d, 2, 8, full('a'), api.ErrDown)
	wantWrite(t, "P8.2: down, and no bytes", d, 2, 5, nil, api.ErrDown)
	wantFinish(t, "P8.3: down, and no twin", d, 7, false, api.ErrDown)
	wantFinish(t, "P8.3: down, and no sense", d, 2, false, api.ErrDown)
	wantRead(t, "P8.4: down, and no place", d, 8, nil, api.ErrDown)
	wantRead(t, "P8.4: down", d, 5, nil, api.ErrDown)
	d.Up()
	wantFinish(t, "P8.3: up again", d, 2, false, api.ErrTwin)
	wantCalls(t, "P8.1: refused", d, 2)
}

// TestWhatWaitsIsReadToo: a sector's content is asked, not the image.
func TestWhatWaitsIsReadToo(t *testing.T) {
	d := loaded(t, row("ab...cdef"))
	d.Write(6, half('x'))
	wantRead(t, "P8.4", d, 5, both('c', 'x'), api.OK)
	wantRead(t, "P8.4", d, 6, both('x', 'e'), api.OK)
	wantFinish(t, "P8.3: nothing is done, not even a Sync", d, 2, false, api.OK)
	wantCalls(t, "P8.3", d, 1)
	d.Write(2, marker(0xa5, 7))
	d.Write(4, half('y'))
	wantFinish(t, "P8.3: it stands in the cache", d, 2, true, api.OK)
	wantRead(t, "P8.3", d, 7, both(0, 'y'), api.OK)
	d.Write(2, marker(0xa5, 7))
	d.Sync()
	d.Write(2, marker(0, 7))
	wantFinish(t, "P8.3: it stands in the image only", d, 2, false, api.OK)
}

// TestWriteOverAMarker: what stood in the twin is not asked.
func TestWriteOverAMarker(t *testing.T) {
	for _, m := range [][]byte{marker(0xa5, 7), marker(1, 5), half('z'), marker(0xa5, 3)} {
		image := row("ab...cdef")
		copy(image[1024:], m)
		d := loaded(t, image)
		wantWrite(t, "P8.2", d, 2, 5, both('x', 'y'), api.OK)
		want := row("ab.xyxyef")
		want[1024] = 5
		wantImage(t, "P8.2", d, want)
		wantFinish(t, "P8.6", d, 2, false, api.OK)
	}
}
