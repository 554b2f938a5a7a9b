package pool_test

import (
	"slices"
	"testing"

	"quota/api"
	"quota/page"
)

// roomy: a page whose list lies amid a longer one, of which all is known.
func roomy(n, lsn int) (x page.Page, counters []api.Counter, groups []api.Group) {
	x = at(n, lsn)
	counters = []api.Counter{{ID: 90}, {ID: 91}, {ID: 92}, {ID: 93}}
	groups = []api.Group{{ID: 80}, {ID: 81}, {ID: 82}, {ID: 83}, {ID: 84}}
	if len(x.Counters) > 0 {
		copy(counters[1:], x.Counters)
		x.Counters = counters[1:2:4]
		x.Groups = groups[:0]
	} else {
		copy(groups[1:], x.Groups)
		x.Groups = groups[1:3:5]
		x.Counters = counters[:0]
	}
	return x, counters, groups
}

func scribble(x page.Page) {
	clear(x.Counters[:cap(x.Counters)])
	clear(x.Groups[:cap(x.Groups)])
}

func TestNothingHandedInIsChangedOrKept(t *testing.T) {
	for n := range 2 {
		s := made(t, small, 2, 0)
		s.got("P9.3", at(n, 0))
		x, counters, groups := roomy(n, 1)
		_, wasCounters, wasGroups := roomy(n, 1)
		s.put("P9.4", x, api.OK)
		s.put("P9.4: refused", x, api.ErrPlace)
		if !slices.Equal(counters, wasCounters) || !slices.Equal(groups, wasGroups) {
			t.Error("P9.1: Put changes what is handed in")
		}
		clear(counters)
		clear(groups)
		s.got("P9.1: what was handed in is not kept", at(n, 1))
		s.flush("P9.6", n, api.OK)
		s.onDisk("P9.1: what was handed in is not kept", at(n, 1))
	}
}

// TestPagesHandedOutAreNew: of a page that was put, that stays, that was just read.
func TestPagesHandedOutAreNew(t *testing.T) {
	for n := range 2 {
		s := made(t, small, 2, 0)
		s.got("P9.3", at(n, 0))
		s.put("P9.4", at(n, 1), api.OK)
		for range 3 {
			one, _ := s.Get(n)
			two, _ := s.Get(n)
			scribble(one)
			if !same(two, at(n, 1)) {
				t.Error("P9.1: two answers of Get share memory")
			}
			s.got("P9.1: the pool keeps what it hands out", at(n, 1))
			s.evict("P9.6", n, api.OK)
			s.onDisk("P9.1: the pool keeps what it hands out", at(n, 1))
		}
		kept, _ := s.Get(n)
		s.put("P9.4", at(n, 2), api.OK)
		s.evict("P9.6", n, api.OK)
		if !same(kept, at(n, 1)) {
			t.Error("P9.1: what was handed out changes with a Put")
		}
	}
}

// TestAPutOfWhatGetAnswered: a page goes out and in again, changed on the way.
func TestAPutOfWhatGetAnswered(t *testing.T) {
	s := made(t, small, 3, 0)
	s.got("P9.3", at(0, 0))
	s.put("P9.4", at(0, 1), api.OK)
	x, _ := s.Get(0)
	x.LSN, x.Counters[0].Value = 2, 2
	s.got("P9.1: it isn't put yet", at(0, 1))
	s.put("P9.4", x, api.OK)
	x.Counters[0].Value = 3
	s.got("P9.1: it was put ahead of that", at(0, 2))
}

func TestListsAreNew(t *testing.T) {
	s := made(t, api.Shape{Pages: 5, Log: 9, Frames: 5}, 9, 0)
	var dirty []api.Dirty
	for n := range 5 {
		s.got("P9.3", at(n, 0))
		s.put("P9.4", at(n, n+1), api.OK)
		dirty = append(dirty, api.Dirty{Page: n, Since: n + 1})
	}
	held, told := s.Held(), s.Dirty()
	clear(held[:cap(held)])
	clear(told[:cap(told)])
	s.tells("P9.1: the pool keeps what it hands out", []int{0, 1, 2, 3, 4}, dirty...)
	held, told = s.Held(), s.Dirty()
	s.evict("P9.6", 0, api.OK)
	s.flush("P9.6", 1, api.OK)
	if !slices.Equal(held, []int{0, 1, 2, 3, 4}) || !slices.Equal(told, dirty) {
		t.Error("P9.1: lists that were handed out change with the pool")
	}
}

// TestFaultsAreNew: an error is handed out too.
func TestFaultsAreNew(t *testing.T) {
	s := used(t, 2, 2)
	spoil := func(call string, n int, err error, e api.Errno) {
		t.Helper()
		wantErr(t, "P9.1", call, n, err, e)
		if f, ok := err.(*api.Fault); ok {
			f.Call, f.At, f.Err = "changed", 9, api.ErrOther
		}
	}
	all := func(n int, e api.Errno) {
		t.Helper()
		for range 2 {
			_, err := s.Get(n)
			spoil("Get", n, err, e)
			spoil("Pin", n, s.Pin(n), e)
			spoil("Put", n, s.Put(at(n, 1)), e)
			spoil("Evict", n, s.Evict(n), e)
			spoil("Flush", n, s.Flush(n), e)
		}
	}
	all(3, api.ErrPlace)
	s.disk.Crash(api.Loss{})
	spoil("Flush", 0, s.Flush(0), api.ErrDown)
	all(0, api.ErrDown)
	all(3, api.ErrDown)
}
