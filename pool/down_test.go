package pool_test

import (
	"math"
	"testing"

	"quota/api"
	"quota/page"
)

// wantEnded: every call that can answer ErrDown does, ahead of all else, and nothing is told any more.
func (s *store) wantEnded(what string) {
	s.t.Helper()
	for range 2 {
		s.calls(what, 0, func() {
			s.t.Helper()
			for _, n := range []int{0, 1, 2, 3, -1, math.MaxInt, math.MinInt} {
				s.notGot(what, n, api.ErrDown)
				s.put(what, at(n, 0), api.ErrDown)
				s.put(what, page.Page{Number: n, LSN: -1}, api.ErrDown)
				s.pin(what, n, api.ErrDown)
				s.unpin(what, n, api.ErrDown)
				s.evict(what, n, api.ErrDown)
				s.flush(what, n, api.ErrDown)
			}
			s.tells(what, nil)
		})
		s.disk.Up() // it makes no difference
	}
}

// used: 0 is dirty, 1 clean and pinned, each frame taken.
func used(t *testing.T, records, forced int) *store {
	t.Helper()
	s := made(t, small, records, forced)
	s.got("P9.3", at(0, 0))
	s.put("P9.4", at(0, 1), api.OK)
	s.pin("P9.5", 1, api.OK)
	return s
}

// TestACallThatAsksNothingOfTheDisk: it answers as if the disk ran.
func TestACallThatAsksNothingOfTheDisk(t *testing.T) {
	s := used(t, 2, 1)
	s.disk.Crash(api.Loss{})
	s.got("P9.1: a held page", at(0, 1))
	s.put("P9.1: a held page", at(0, 2), api.OK)
	s.pin("P9.1: a held page", 0, api.OK)
	s.notGot("P9.1: all are pinned", 2, api.ErrFull)
	s.pin("P9.1: all are pinned", 2, api.ErrFull)
	s.unpin("P9.1", 0, api.OK)
	s.notGot("P9.1: no page", 3, api.ErrPlace)
	s.put("P9.1: not held", at(2, 1), api.ErrAbsent)
	s.flush("P9.1: a clean page", 1, api.OK)
	s.evict("P9.1: a pinned page", 1, api.ErrPinned)
	s.unpin("P9.1", 1, api.OK)
	s.evict("P9.1: a clean page", 1, api.OK)
	s.evict("P9.1: not held", 1, api.ErrAbsent)
	s.tells("P9.1", []int{0}, api.Dirty{Page: 0, Since: 1})
	s.disk.Up()
	s.got("P9.1: the pool has not met it", at(2, 0))
	s.evict("P9.1: the pool has not met it", 0, api.OK)
	s.onDisk("P9.6", at(0, 2))
}

// TestEveryCallThatMeetsADiskThatIsDown: it had given up ahead of the call.
func TestEveryCallThatMeetsADiskThatIsDown(t *testing.T) {
	for _, c := range []struct {
		what string
		do   func(s *store)
	}{
		{"Get, one is written", func(s *store) { s.notGot("P9.3", 2, api.ErrDown) }},
		{"Pin, one is written", func(s *store) { s.pin("P9.5", 2, api.ErrDown) }},
		{"Get, a clean one leaves", func(s *store) {
			s.pin("P9.5", 0, api.OK)
			s.unpin("P9.5", 1, api.OK)
			s.notGot("P9.3", 2, api.ErrDown)
		}},
		{"Pin, a clean one leaves", func(s *store) {
			s.pin("P9.5", 0, api.OK)
			s.unpin("P9.5", 1, api.OK)
			s.pin("P9.5", 2, api.ErrDown)
		}},
		{"Get, with room", func(s *store) {
			s.unpin("P9.5", 1, api.OK)
			s.evict("P9.6", 1, api.OK)
			s.notGot("P9.3", 1, api.ErrDown)
		}},
		{"Evict", func(s *store) { s.evict("P9.6", 0, api.ErrDown) }},
		{"Flush", func(s *store) { s.flush("P9.6", 0, api.ErrDown) }},
	} {
		for _, forced := range []int{0, 1, 2} {
			s := used(t, 2, forced)
			was := s.disk.Calls()
			s.disk.Crash(api.Loss{})
			c.do(s)
			if s.disk.Calls() != was {
				t.Errorf("P9.1: %s calls a disk that is down", c.what)
			}
			s.wantEnded("P9.1: " + c.what)
		}
	}
}

// TestEveryStepAtWhichTheDiskGivesUp: within the call.
func TestEveryStepAtWhichTheDiskGivesUp(t *testing.T) {
	for forced, all := range map[int]int{0: 12, 1: 10} {
		for step := 1; step <= all+1; step++ {
			e := api.ErrDown
			if step > all {
				e = api.OK
			}
			for _, do := range []func(s *store){
				func(s *store) { s.evict("P9.6", 0, e) },
				func(s *store) { s.flush("P9.6", 0, e) },
				func(s *store) { s.pin("P9.5", 2, e) },
				func(s *store) {
					_, err := s.Get(2)
					wantErr(t, "P9.3", "Get", 2, err, e)
				},
			} {
				s := used(t, 1, forced)
				s.disk.Arm(step, api.Loss{Keep: []uint64{^uint64(0)}})
				s.calls("Words: to write", min(step, all), func() { do(s) })
				if e == api.OK {
					s.onDisk("Words: to write", at(0, 1))
				} else {
					s.wantEnded("P9.1: it gives up within")
				}
			}
		}
	}
}

// TestALogThatIsEnded: the disk runs again, but what a page has been through is not in the log.
func TestALogThatIsEnded(t *testing.T) {
	for _, call := range []string{"Evict", "Flush", "Get", "Pin"} {
		for _, lsn := range []int{1, 3} { // forced by then, or not
			s := made(t, small, 3, 2)
			s.got("P9.3", at(0, 0))
			s.put("P9.4", at(0, lsn), api.OK)
			s.got("P9.3", at(1, 0))
			s.disk.Crash(api.Loss{})
			if s.log.Force(3) == nil {
				t.Fatal("the log is not ended")
			}
			s.disk.Up()
			s.got("P9.1: a held page", at(1, 0))
			s.put("P9.4: the log's numbers stay", at(1, 2), api.OK)
			s.put("P9.4: the log's numbers stay", at(1, 4), api.ErrPlace)
			s.calls("P9.1: nothing is written", 0, func() {
				switch call {
				case "Evict":
					s.evict("P9.1", 0, api.ErrDown)
				case "Flush":
					s.flush("P9.1", 0, api.ErrDown)
				case "Get":
					s.notGot("P9.1", 2, api.ErrDown)
				case "Pin":
					s.pin("P9.1", 2, api.ErrDown)
				}
			})
			s.onDisk("P9.1: nothing is written", at(0, 0))
			s.wantEnded("P9.1: the log is ended")
		}
	}
}

// TestAReadNeedsNoLog: a page that comes, and a clean one that leaves, ask the disk alone.
func TestAReadNeedsNoLog(t *testing.T) {
	s := made(t, small, 1, 0)
	s.disk.Crash(api.Loss{})
	if s.log.Force(1) == nil {
		t.Fatal("the log is not ended")
	}
	s.disk.Up()
	for range 2 {
		for n := range 3 {
			s.got("P9.3", at(n, 0))
			s.flush("P9.6: a clean page", n, api.OK)
		}
	}
	s.evict("P9.6: a clean page", 2, api.OK)
	s.tells("P9.7", []int{1})
}

// TestPoolsKnowNothingOfOneAnother: of one another's disk.
func TestPoolsKnowNothingOfOneAnother(t *testing.T) {
	a, b := used(t, 2, 2), used(t, 2, 2)
	a.put("P9.4", at(0, 2), api.OK)
	a.disk.Crash(api.Loss{})
	a.flush("P9.6", 0, api.ErrDown)
	a.wantEnded("P9.1")
	b.tells("P9.7", []int{0, 1}, api.Dirty{Page: 0, Since: 1})
	b.got("P9.3", at(0, 1))
	b.evict("P9.6", 0, api.OK)
	b.onDisk("P9.6", at(0, 1))
}
