package twin_test

import (
	"bytes"
	"testing"

	"quota/api"
)

// withMarker: nine sectors, the twin at 2, of which the first is that.
func withMarker(m []byte) []byte {
	image := row("ab.xycdef")
	copy(image[2*512:], m)
	return image
}

// wantKept: the marker is told, and nothing is done.
func wantKept(t *testing.T, what string, m []byte, e api.Errno) {
	t.Helper()
	d := loaded(t, withMarker(m))
	wantFinish(t, what, d, 2, false, e)
	wantCalls(t, what, d, 0)
	wantImage(t, what, d, withMarker(m))
}

// wantDone: the page comes home, and the marker stays but for its last byte.
func wantDone(t *testing.T, what string, m []byte, home int) {
	t.Helper()
	d := loaded(t, withMarker(m))
	wantFinish(t, what, d, 2, true, api.OK)
	wantCalls(t, what, d, 5)
	want := withMarker(append(bytes.Clone(m[:511]), 0))
	copy(want[512*home:], both('x', 'y'))
	wantImage(t, what, d, want)
	wantFinish(t, "P8.6", d, 2, false, api.OK)
	wantCalls(t, "P8.6", d, 5)
}

func TestTheLastByteSaysIt(t *testing.T) {
	for last := range 256 {
		m := marker(byte(last), 5)
		switch last {
		case 0x00:
			wantKept(t, "P8.3: it does not stand", m, api.OK)
		case 0xa5:
			wantDone(t, "P8.3: it stands", m, 5)
		default:
			wantKept(t, "P8.3: it makes no sense", m, api.ErrTwin)
		}
	}
}

func TestTheBytesBetweenAreZeros(t *testing.T) {
	for i := 4; i <= 510; i++ {
		for _, x := range []byte{1, 0x80, 0xa5, 0xff} {
			m := marker(0xa5, 5)
			m[i] = x
			wantKept(t, "P8.3: another byte amid one that stands", m, api.ErrTwin)
			m[511] = 0
			wantKept(t, "P8.3: another byte amid one that does not", m, api.OK)
			m[511] = 0xa4
			wantKept(t, "P8.3: two bytes that make no sense", m, api.ErrTwin)
		}
	}
}

func TestAnyBytesThatDoNotStand(t *testing.T) {
	r := drawn()
	for range 300 {
		m := make([]byte, 512)
		for i := range 511 {
			m[i] = byte(r.Uint32())
		}
		wantKept(t, "P8.3: byte 511 is 00", m, api.OK)
		m[511] = byte(1 + r.IntN(255))
		wantKept(t, "P8.3: drawn bytes", m, api.ErrTwin)
	}
}

func TestEveryHome(t *testing.T) {
	for home := range 300 {
		m := marker(0xa5, byte(home), byte(home>>8))
		switch {
		case isHome(2, home, 9):
			wantDone(t, "P8.3: a home that may be", m, home)
		default:
			wantKept(t, "P8.3: a home that may not be", m, api.ErrTwin)
		}
	}
	for _, far := range [][]byte{{5, 1, 0, 0}, {5, 0, 1, 0}, {5, 0, 0, 1}, {5, 0, 0, 0x80}, {0xff, 0xff, 0xff, 0x7f}, {0xff, 0xff, 0xff, 0xff}, {0, 0, 0, 5}} {
		wantKept(t, "P8.3: a home far off", marker(0xa5, far...), api.ErrTwin)
		wantKept(t, "P8.3: a home far off, that does not stand", marker(0, far...), api.OK)
	}
}

// TestHomesOfAGreatDisk: a number of two bytes, at both ends of it.
func TestHomesOfAGreatDisk(t *testing.T) {
	for _, home := range []int{0, 254, 255, 256, 257, 0x1234, 8190} {
		image := make([]byte, 512*api.MaxSectors)
		at := 300
		copy(image[512*at:], marker(0xa5, byte(home), byte(home>>8)))
		copy(image[512*at+512:], both('x', 'y'))
		d := loaded(t, image)
		wantFinish(t, "P8.3", d, at, true, api.OK)
		wantRead(t, "P8.3", d, home, both('x', 'y'), api.OK)
		wantWrite(t, "P8.2", d, at, home, both('v', 'w'), api.OK)
		wantRead(t, "P8.2", d, at, append(marker(0, byte(home), byte(home>>8)), half('v')...), api.OK)
		wantRead(t, "P8.2", d, home, both('v', 'w'), api.OK)
	}
	d := made(t, api.MaxSectors)
	d.Write(300, marker(0xa5, 0xff, 0x1f))
	wantFinish(t, "P8.3: the last sector is no home", d, 300, false, api.ErrTwin)
	wantWrite(t, "P8.2: the twin at the end", d, api.MaxSectors-3, api.MaxSectors-5, full('e'), api.OK)
	wantRead(t, "P8.2: the twin at the end", d, api.MaxSectors-5, full('e'), api.OK)
}

// TestTwinsElsewhere: a home that may not be hangs on where the twin is.
func TestTwinsElsewhere(t *testing.T) {
	for at := range 7 {
		for home := range 10 {
			image := row("abcdefghi")
			copy(image[512*at:], marker(0xa5, byte(home)))
			d := loaded(t, image)
			if !isHome(at, home, 9) {
				wantFinish(t, "P8.3", d, at, false, api.ErrTwin)
				wantImage(t, "P8.3", d, image)
				continue
			}
			wantFinish(t, "P8.3", d, at, true, api.OK)
			copy(image[512*home:], image[512*at+512:512*at+1536])
			image[512*at+511] = 0
			wantImage(t, "P8.3", d, image)
		}
	}
}
