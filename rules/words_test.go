// Package rules holds what is asked of the program as a whole: the words of package api, the layers' calls, the language.
package rules

import (
	"errors"
	"testing"

	"quota/api"
)

func TestErrnoTellsItsNumber(t *testing.T) {
	for e, want := range map[api.Errno]string{
		api.OK: "quota: error 0", api.ErrOther: "quota: error 1", api.ErrOverflow: "quota: error 10", -3: "quota: error -3",
	} {
		if got := e.Error(); got != want {
			t.Errorf("Errno %d tells %q, want %q", int(e), got, want)
		}
	}
}

func TestFaultTellsAndUnwraps(t *testing.T) {
	inner := &api.Fault{Call: "Force", At: 7, Err: api.ErrDown}
	outer := &api.Fault{Call: "Commit", Err: inner}
	if got, want := inner.Error(), "Force at 7: quota: error 40"; got != want {
		t.Errorf("a Fault tells %q, want %q", got, want)
	}
	if got, want := outer.Error(), "Commit at 0: Force at 7: quota: error 40"; got != want {
		t.Errorf("a Fault around a Fault tells %q, want %q", got, want)
	}
	if errors.Unwrap(outer) != error(inner) || errors.Unwrap(inner) != error(api.ErrDown) {
		t.Error("Unwrap does not answer what lies inside")
	}
	if !errors.Is(outer, api.ErrDown) || errors.Is(outer, api.ErrFull) {
		t.Error("errors.Is does not find the number inside")
	}
}

func TestCodeIsTheFirstNumberInside(t *testing.T) {
	for _, c := range []struct {
		err  error
		want api.Errno
	}{
		{nil, api.OK},
		{api.ErrFull, api.ErrFull},
		{&api.Fault{Call: "Add", Err: api.ErrBounds}, api.ErrBounds},
		{&api.Fault{Call: "Open", Err: &api.Fault{Call: "Force", At: 2, Err: api.ErrDown}}, api.ErrDown},
		{errors.New("something else"), api.ErrOther},
		{&api.Fault{Call: "Add", Err: errors.New("something else")}, api.ErrOther},
	} {
		if got := api.Code(c.err); got != c.want {
			t.Errorf("Code(%v) = %d, want %d", c.err, got, c.want)
		}
	}
}

func TestErrorsHaveTheirNumbers(t *testing.T) {
	for _, c := range []struct {
		e    api.Errno
		want int
	}{
		{api.OK, 0}, {api.ErrOther, 1}, {api.ErrLimits, 2}, {api.ErrHandle, 3}, {api.ErrPlace, 4}, {api.ErrLong, 5}, {api.ErrFull, 6},
		{api.ErrOverflow, 10}, {api.ErrRange, 11},
		{api.ErrShort, 20}, {api.ErrTail, 21}, {api.ErrForm, 22}, {api.ErrField, 23},
		{api.ErrDown, 40}, {api.ErrSector, 41}, {api.ErrData, 42}, {api.ErrImage, 43},
		{api.ErrMaster, 50},
		{api.ErrLog, 60},
		{api.ErrKind, 70},
		{api.ErrMark, 80}, {api.ErrSum, 81}, {api.ErrPage, 82}, {api.ErrSlot, 83}, {api.ErrTwin, 84},
		{api.ErrPinned, 100}, {api.ErrAbsent, 101},
		{api.ErrBounds, 110},
		{api.ErrCounter, 120}, {api.ErrTwice, 121}, {api.ErrGroup, 122},
		{api.ErrTx, 130}, {api.ErrMany, 131},
	} {
		if int(c.e) != c.want {
			t.Errorf("an error has the number %d, want %d", int(c.e), c.want)
		}
	}
}

func TestLimits(t *testing.T) {
	for _, c := range []struct {
		name      string
		got, want int
	}{
		{"SectorSize", api.SectorSize, 512}, {"PageSize", api.PageSize, 1024}, {"MaxSectors", api.MaxSectors, 8192},
		{"MaxPages", api.MaxPages, 64}, {"MaxLog", api.MaxLog, 4096}, {"MaxFrames", api.MaxFrames, 16},
		{"MaxCounter", api.MaxCounter, 1 << 20}, {"MaxGroup", api.MaxGroup, 1 << 20},
		{"MaxLive", api.MaxLive, 32}, {"MaxTx", api.MaxTx, 1<<31 - 1}, {"MaxHoldings", api.MaxHoldings, 64},
		{"MaxLSN", api.MaxLSN, 1<<31 - 1}, {"MaxSteps", api.MaxSteps, 4096}, {"MaxScript", api.MaxScript, 1 << 20},
	} {
		if c.got != c.want {
			t.Errorf("%s is %d, want %d", c.name, c.got, c.want)
		}
	}
}
