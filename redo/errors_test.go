package redo_test

import (
	"math"
	"testing"

	"quota/api"
	"quota/log"
	"quota/page"
	"quota/pool"
)

// endedLog: the examples' log, whose disk has given up within a Force.
func endedLog(t *testing.T) *log.Log {
	t.Helper()
	w := made(t, small, examples()...)
	w.disk.Arm(1, api.Loss{})
	if err := w.log.Force(3); err == nil {
		t.Fatal("the disk was to give up")
	}
	return w.log
}

// TestErrorsOfTheLog: it is asked for records alone, each at its own number.
func TestErrorsOfTheLog(t *testing.T) {
	l, p := endedLog(t), made(t, small, examples()...).pool
	for from := 1; from <= 3; from++ {
		wantFault(t, l, p, from, from, api.ErrDown)
	}
	for _, from := range []int{-1, 5} {
		wantFault(t, l, p, from, 0, api.ErrPlace)
	}
	w := &store{t: t, log: l, pool: p}
	w.want(0, 0)
	w.want(4, 0)
	w.wantEmpty(0, 1, 2)
}

// TestErrorsOfGet: at the first record that needs the page, not at the first that there is.
func TestErrorsOfGet(t *testing.T) {
	w := made(t, small, examples()...)
	w.disk.Crash(api.Loss{})
	w.refused(1, 2, api.ErrDown)
	w.refused(3, 3, api.ErrDown)
	w.want(4, 0)
	w.want(0, 0)

	w = made(t, small, examples()...)
	w.pinned(2)
	w.pinned(1)
	w.refused(1, 2, api.ErrFull)
	w.wantEmpty(1, 2)

	for _, c := range [][2]int{{3, 0}, {0, 3}, {63, 0}} {
		w = made(t, small, began(1), create(7, 2, 5, slot(c[0], 0), slot(c[1], 0)))
		w.refused(1, 2, api.ErrPlace)
	}
}

// TestErrorsOfBytes: of pages that are none.
func TestErrorsOfBytes(t *testing.T) {
	x := page.Page{Number: 1, LSN: 2, Groups: []api.Group{{ID: 2, Sum: 5}}}
	wrong := func(at int, b byte) []byte {
		out := bytesOf(t, x)
		out[at] ^= b
		return out
	}
	other := x
	other.Number = 2
	for _, c := range []struct {
		b []byte
		e api.Errno
	}{
		{wrong(0, 1), api.ErrMark},
		{wrong(600, 1), api.ErrSum},
		{bytesOf(t, other), api.ErrPage},
	} {
		w := made(t, small, examples()...)
		w.lay(1, c.b)
		w.refused(1, 2, c.e)
		w.wantPage(page.Page{Number: 0, LSN: 2, Counters: []api.Counter{seven(5)}})
		w.refused(1, 2, c.e)
		w.refused(3, 3, c.e)
		w.want(4, 0)
	}
}

// TestErrorsOfApply: at the record that it doesn't take.
func TestErrorsOfApply(t *testing.T) {
	most := int64(math.MaxInt64)
	for _, c := range []struct {
		what    string
		records []api.Record
		from    int
		e       api.Errno
	}{
		{"a slot that is not there", examples(), 3, api.ErrSlot},
		{"a slot beyond the next", []api.Record{began(1), began(2), create(7, 2, 5, slot(0, 1), slot(1, 0))}, 1, api.ErrSlot},
		{"a sum's slot beyond the next", []api.Record{began(1), began(2), create(7, 2, 5, slot(0, 0), slot(1, 1))}, 1, api.ErrSlot},
		{"a counter of another number", []api.Record{began(1), create(7, 2, 5, slot(0, 0), slot(1, 0)), change(api.Add, 8, 1, slot(0, 0), slot(1, 0))}, 1, api.ErrSlot},
		{"a slot that is taken", []api.Record{began(1), create(7, 2, 5, slot(0, 0), slot(1, 0)), create(8, 2, 5, slot(0, 0), slot(1, 0))}, 2, api.ErrSlot},
		{"a value too great", []api.Record{began(1), create(7, 2, most, slot(0, 0), slot(1, 0)), change(api.Add, 7, 1, slot(0, 0), slot(1, 0))}, 1, api.ErrOverflow},
		{"a sum too great", []api.Record{began(1), create(7, 2, most, slot(0, 0), slot(1, 0)), create(8, 2, 1, slot(0, 1), slot(1, 0))}, 1, api.ErrOverflow},
		{"a value too small", []api.Record{began(1), create(7, 2, -2, slot(0, 0), slot(1, 0)), change(api.Undo, 7, most, slot(0, 0), slot(1, 0))}, 1, api.ErrOverflow},
		{"sums where counters stand", []api.Record{began(1), create(7, 2, 5, slot(0, 0), slot(1, 0)), create(8, 3, 5, slot(2, 0), slot(0, 0))}, 1, api.ErrSlot},
		{"counters where sums stand", []api.Record{began(1), create(7, 2, 5, slot(0, 0), slot(1, 0)), create(8, 3, 5, slot(1, 1), slot(2, 0))}, 1, api.ErrSlot},
	} {
		w := made(t, small, c.records...)
		w.refused(c.from, 3, c.e)
		w.refused(c.from, 3, c.e) // it does not get by a second time either
		w.wantQuiet(3)
		if t.Failed() {
			t.Fatal(c.what)
		}
	}
}

// TestErrorsOfPut: a pool over another log, which knows no such record.
func TestErrorsOfPut(t *testing.T) {
	w, other := made(t, small, examples()...), made(t, small, examples()[:1]...)
	wantFault(t, w.log, other.pool, 1, 2, api.ErrPlace)
	other.wantEmpty(0, 1)
	other.append(examples()[1])
	wantFault(t, w.log, other.pool, 1, 3, api.ErrPlace)
	other.wantPage(page.Page{Number: 0, LSN: 2, Counters: []api.Counter{seven(5)}})
	other.wantPage(page.Page{Number: 1, LSN: 2, Groups: []api.Group{{ID: 2, Sum: 5}}})
	other.append(examples()[2])
	other.log, w.log = w.log, other.log
	other.want(1, 2)
	other.wantExamples()
	w.wantEmpty(0, 1)
}

// TestWhatWasDoneStays: up to the page at which the error came up, the rising pages of one record among them.
func TestWhatWasDoneStays(t *testing.T) {
	w := made(t, small, append(examples(), create(8, 2, math.MaxInt64, slot(0, 1), slot(1, 0)))...)
	w.refused(1, 4, api.ErrOverflow)
	c := create(8, 2, math.MaxInt64, slot(0, 1), slot(1, 0)).Counter
	w.wantPage(page.Page{Number: 0, LSN: 4, Counters: []api.Counter{seven(9), c}})
	w.wantPage(page.Page{Number: 1, LSN: 3, Groups: []api.Group{{ID: 2, Sum: 9}}})
	w.refused(4, 4, api.ErrOverflow)

	// The sum's page is the lower one here, and comes first.
	w = made(t, small, began(1), create(7, 2, 5, slot(1, 0), slot(0, 0)), create(8, 3, 1, slot(1, 2), slot(0, 1)), began(2))
	w.refused(2, 3, api.ErrSlot)
	c = create(7, 2, 5, slot(1, 0), slot(0, 0)).Counter
	w.wantPage(page.Page{Number: 0, LSN: 3, Groups: []api.Group{{ID: 2, Sum: 5}, {ID: 3, Sum: 1}}})
	w.wantPage(page.Page{Number: 1, LSN: 2, Counters: []api.Counter{c}})
	w.wantQuiet(4)
}

// TestTheFirstErrorIsTheAnswer: what comes behind it is not looked at.
func TestTheFirstErrorIsTheAnswer(t *testing.T) {
	w := made(t, small, append(examples()[:2], create(8, 2, 5, slot(0, 0), slot(1, 0)), create(9, 3, 5, slot(3, 0), slot(1, 0)))...)
	w.refused(1, 3, api.ErrSlot)
	w.refused(4, 4, api.ErrSlot) // page 1 comes first, page 3 is not there
	w = made(t, small, create(9, 3, 5, slot(3, 0), slot(4, 0)), create(9, 3, 5, slot(0, 5), slot(1, 0)))
	w.refused(1, 1, api.ErrPlace)
	w.refused(2, 2, api.ErrSlot)
	w.wantEmpty(0, 1)
}

// TestNothingMade: a log and a pool that no call has answered do not bring Run down.
func TestNothingMade(t *testing.T) {
	w := made(t, small, examples()...)
	for _, from := range []int{0, 1} {
		(&store{t: t, log: new(log.Log), pool: w.pool}).want(from, 0)
		(&store{t: t, log: new(log.Log), pool: new(pool.Pool)}).want(from, 0)
	}
	wantFault(t, new(log.Log), w.pool, 2, 0, api.ErrPlace)
	wantFault(t, w.log, new(pool.Pool), 1, 2, api.ErrLimits)
}

// TestADiskThatGivesUpWithin: the page that has to leave ends the pool; the record is the one that needed room.
func TestADiskThatGivesUpWithin(t *testing.T) {
	records := append(examples(), create(8, 3, 1, slot(2, 0), slot(1, 1)))
	w := made(t, small, records...)
	w.disk.Arm(1, api.Loss{}) // the log's Force for page 0, which has to leave
	w.refused(1, 4, api.ErrDown)
	w.refused(1, 1, api.ErrDown)
	w.want(5, 0)

	w = made(t, small, records...)
	w.force()
	w.disk.Arm(3, api.Loss{}) // the twin's
	w.refused(1, 4, api.ErrDown)
	w.refused(1, 2, api.ErrDown)
	w.want(5, 0)
}
