package twin_test

import (
	"bytes"
	"testing"

	"quota/api"
	"quota/twin"
)

// TestNothingHandedInIsChangedOrKept: a page amid a longer list, of which all is known.
func TestNothingHandedInIsChangedOrKept(t *testing.T) {
	whole := bytes.Join([][]byte{half('l'), both('x', 'y'), half('r')}, nil)
	was := bytes.Clone(whole)
	b := whole[512:1536:2048]
	d := made(t, 9)
	wantWrite(t, "P8.2", d, 2, 5, b, api.OK)
	wantWrite(t, "P8.2: no place", d, 2, 8, b, api.ErrPlace)
	wantWrite(t, "P8.2: too long", d, 2, 5, b[:1025], api.ErrData)
	for step := 1; step <= 10; step++ {
		d := made(t, 9)
		d.Arm(step, api.Loss{})
		wantWrite(t, "P8.2", d, 2, 5, b, api.ErrDown)
	}
	if !bytes.Equal(whole, was) {
		t.Error("P8.1: bytes that were handed in are changed")
	}
	clear(whole)
	wantRead(t, "P8.1: the page changes with what was handed in", d, 5, both('x', 'y'), api.OK)
	wantRead(t, "P8.1: the twin changes with what was handed in", d, 3, both('x', 'y'), api.OK)
}

func TestWhatIsHandedOutIsNew(t *testing.T) {
	d := loaded(t, row("ab...cdef"))
	one, err := twin.Read(d, 5)
	wantErr(t, "P8.4", "Read", err, api.OK)
	two, err := twin.Read(d, 5)
	wantErr(t, "P8.4", "Read", err, api.OK)
	clear(one[:cap(one)])
	if !bytes.Equal(two, both('c', 'd')) {
		t.Error("P8.1: two answers of Read share memory")
	}
	wantImage(t, "P8.1: the disk changes with what was handed out", d, row("ab...cdef"))
	wantWrite(t, "P8.2", d, 2, 5, full('x'), api.OK)
	if !bytes.Equal(two, both('c', 'd')) {
		t.Error("P8.1: an answer of Read changes with the disk")
	}
}

// TestFaultsAreNew: an error is handed out too.
func TestFaultsAreNew(t *testing.T) {
	d := made(t, 9)
	d.Write(2, marker(1))
	spoil := func(what, call string, err error, e api.Errno) {
		t.Helper()
		wantErr(t, what, call, err, e)
		if f, ok := err.(*api.Fault); ok {
			f.Call, f.At, f.Err = "changed", 9, api.ErrFull
		}
	}
	for range 3 {
		spoil("P8.2", "Write", twin.Write(d, 2, 4, full('a')), api.ErrPlace)
		spoil("P8.2", "Write", twin.Write(d, 2, 5, nil), api.ErrData)
		_, err := twin.Finish(d, 2)
		spoil("P8.3", "Finish", err, api.ErrTwin)
		_, err = twin.Finish(nil, 2)
		spoil("P8.3", "Finish", err, api.ErrHandle)
		_, err = twin.Read(d, 8)
		spoil("P8.4", "Read", err, api.ErrPlace)
	}
	d.Crash(api.Loss{})
	for range 3 {
		spoil("P8.2", "Write", twin.Write(d, 2, 5, full('a')), api.ErrDown)
		_, err := twin.Finish(d, 2)
		spoil("P8.3", "Finish", err, api.ErrDown)
		_, err = twin.Read(d, 5)
		spoil("P8.4", "Read", err, api.ErrDown)
	}
}

// TestTwinsOfOneDisk: each has its own sectors, and asks nothing of the other.
func TestTwinsOfOneDisk(t *testing.T) {
	d := made(t, 12)
	wantWrite(t, "P8.2", d, 0, 8, full('a'), api.OK)
	wantWrite(t, "P8.2", d, 3, 10, full('b'), api.OK)
	d.Write(0, marker(0xa5, 6))
	d.Write(3, marker(1))
	wantFinish(t, "P8.3: one that stands", d, 0, true, api.OK)
	wantFinish(t, "P8.3: one that makes no sense", d, 3, false, api.ErrTwin)
	wantRead(t, "P8.3", d, 6, full('a'), api.OK)
	wantRead(t, "P8.3", d, 8, full('a'), api.OK)
	wantRead(t, "P8.3", d, 10, full('b'), api.OK)
}
