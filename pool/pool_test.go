package pool_test

import (
	"errors"
	"math"
	"math/rand/v2"
	"slices"
	"testing"

	"quota/api"
	"quota/log"
	"quota/page"
	"quota/pool"
	"quota/sectors"
	"quota/twin"
)

// drawn: numbers that look drawn but are the same in every run.
func drawn() *rand.Rand { return rand.New(rand.NewPCG(9, 0)) }

// store: a disk, its log, and a pool over both.
type store struct {
	*pool.Pool
	t     *testing.T
	disk  *sectors.Device
	log   *log.Log
	shape api.Shape
}

// made: of zeros, with a log of so many records, of which so many are forced.
func made(t *testing.T, s api.Shape, records, forced int) *store {
	t.Helper()
	d, e := sectors.New(5 + 2*s.Pages + s.Log)
	if e != api.OK {
		t.Fatalf("no disk: %d", e)
	}
	return over(t, d, s, records, forced)
}

// over: the same, of that disk.
func over(t *testing.T, d *sectors.Device, s api.Shape, records, forced int) *store {
	t.Helper()
	l := opened(t, d, s)
	appendRecords(t, l, records)
	if err := l.Force(forced); err != nil {
		t.Fatal(err)
	}
	p, e := pool.New(d, l, s)
	if p == nil || e != api.OK {
		t.Fatalf("P9.2: New of %v = %d, want a pool", s, e)
	}
	return &store{Pool: p, t: t, disk: d, log: l, shape: s}
}

// laid: a disk with these bytes as pages, by number.
func laid(t *testing.T, s api.Shape, pages map[int][]byte) *sectors.Device {
	t.Helper()
	d, _ := sectors.New(5 + 2*s.Pages + s.Log)
	for n, b := range pages {
		d.Write(5+2*n, b[:512])
		d.Write(6+2*n, b[512:])
	}
	if e := d.Sync(); e != api.OK {
		t.Fatalf("no disk: %d", e)
	}
	return d
}

// encoded: a right page's bytes.
func encoded(t *testing.T, x page.Page) []byte {
	t.Helper()
	b, e := page.Encode(x)
	if e != api.OK {
		t.Fatalf("no page: %+v: %d", x, e)
	}
	return b
}

func opened(t *testing.T, d *sectors.Device, s api.Shape) *log.Log {
	t.Helper()
	l, err := log.Open(d, 5+2*s.Pages, s.Log)
	if err != nil {
		t.Fatal(err)
	}
	return l
}

func appendRecords(t *testing.T, l *log.Log, n int) {
	t.Helper()
	for range n {
		if _, e := l.Append(api.Record{Kind: api.Begin, Tx: l.Last() + 1}); e != api.OK {
			t.Fatalf("Append: %d", e)
		}
	}
}

var small = api.Shape{Pages: 3, Log: 4, Frames: 2}

// at: page n as record lsn has left it, of one kind or the other.
func at(n, lsn int) page.Page {
	x := page.Page{Number: n, LSN: lsn}
	switch {
	case lsn == 0:
	case n%2 == 0:
		x.Counters = []api.Counter{{ID: n + 1, Group: 7, Bounds: api.Range{Lo: -9, Hi: 9}, Value: int64(lsn)}}
	default:
		x.Groups = []api.Group{{ID: 7, Sum: int64(lsn)}, {ID: 8, Sum: int64(-n)}}
	}
	return x
}

// same: but that an empty list and nil are one.
func same(a, b page.Page) bool {
	return a.Number == b.Number && a.LSN == b.LSN && slices.Equal(a.Counters, b.Counters) && slices.Equal(a.Groups, b.Groups)
}

// wantErr: nil, or a Fault of the call at that page around the number itself.
func wantErr(t *testing.T, what, call string, n int, err error, e api.Errno) {
	t.Helper()
	if e == api.OK {
		if err != nil {
			t.Errorf("%s: %s(%d) = %v, want nil", what, call, n, err)
		}
		return
	}
	f, ok := err.(*api.Fault)
	if !ok || f == nil || *f != (api.Fault{Call: call, At: n, Err: e}) {
		t.Errorf("%s: %s(%d) = %v, want a Fault of it around %d", what, call, n, err, e)
	}
	if api.Code(err) != e || !errors.Is(err, e) {
		t.Errorf("%s: the number inside is %d, want %d", what, api.Code(err), e)
	}
}

// got: Get answers that page.
func (s *store) got(what string, want page.Page) {
	s.t.Helper()
	x, err := s.Get(want.Number)
	wantErr(s.t, what, "Get", want.Number, err, api.OK)
	if !same(x, want) {
		s.t.Errorf("%s: Get(%d) = %+v, want %+v", what, want.Number, x, want)
	}
}

// notGot: Get is refused.
func (s *store) notGot(what string, n int, e api.Errno) {
	s.t.Helper()
	x, err := s.Get(n)
	wantErr(s.t, what, "Get", n, err, e)
	if x.Number != 0 || x.LSN != 0 || x.Counters != nil || x.Groups != nil {
		s.t.Errorf("%s: Get(%d) answers %+v beside an error", what, n, x)
	}
}

func (s *store) put(what string, x page.Page, e api.Errno) {
	s.t.Helper()
	wantErr(s.t, what, "Put", x.Number, s.Put(x), e)
}

func (s *store) pin(what string, n int, e api.Errno) {
	s.t.Helper()
	wantErr(s.t, what, "Pin", n, s.Pin(n), e)
}

func (s *store) unpin(what string, n int, e api.Errno) {
	s.t.Helper()
	if got := s.Unpin(n); got != e {
		s.t.Errorf("%s: Unpin(%d) = %d, want %d", what, n, got, e)
	}
}

func (s *store) evict(what string, n int, e api.Errno) {
	s.t.Helper()
	wantErr(s.t, what, "Evict", n, s.Evict(n), e)
}

func (s *store) flush(what string, n int, e api.Errno) {
	s.t.Helper()
	wantErr(s.t, what, "Flush", n, s.Flush(n), e)
}

// tells: which pages are held, and which are dirty.
func (s *store) tells(what string, held []int, dirty ...api.Dirty) {
	s.t.Helper()
	if !slices.Equal(s.Held(), held) || !slices.Equal(s.Dirty(), dirty) {
		s.t.Errorf("%s: held %v, dirty %v, want %v, %v", what, s.Held(), s.Dirty(), held, dirty)
	}
}

// calls: how many changing calls of the disk what is done makes.
func (s *store) calls(what string, want int, do func()) {
	s.t.Helper()
	was := s.disk.Calls()
	do()
	if got := s.disk.Calls() - was; got != want {
		s.t.Errorf("%s: %d changing calls, want %d", what, got, want)
	}
}

// homed: what the disk has of page n.
func homed(t *testing.T, d *sectors.Device, n int) page.Page {
	t.Helper()
	b, err := twin.Read(d, 5+2*n)
	if err != nil {
		t.Fatal(err)
	}
	x, e := page.Decode(b, n)
	if e != api.OK {
		t.Fatalf("the disk's page %d is none: %d", n, e)
	}
	return x
}

func (s *store) onDisk(what string, want page.Page) {
	s.t.Helper()
	if x := homed(s.t, s.disk, want.Number); !same(x, want) {
		s.t.Errorf("%s: the disk has %+v, want %+v", what, x, want)
	}
}

func TestExamples(t *testing.T) {
	s := made(t, small, 2, 2)
	s.calls("P9.1: row 1", 0, func() {
		s.notGot("P9.3", 3, api.ErrPlace)
		s.put("P9.4", page.Page{}, api.ErrAbsent)
		s.evict("P9.6", 0, api.ErrAbsent)
		s.unpin("P9.5", 0, api.ErrAbsent)
		s.tells("P9.7", nil)
	})
	s.calls("P9.1: rows 2 to 5", 0, func() {
		s.got("P9.3", at(0, 0))
		s.got("P9.3", at(1, 0))
		s.tells("P9.7", []int{0, 1})
		s.put("P9.4", at(0, 1), api.OK)
		s.put("P9.4", at(0, 1), api.ErrPlace)
		s.put("P9.4", at(0, 3), api.ErrPlace)
		s.tells("P9.7", []int{0, 1}, api.Dirty{Page: 0, Since: 1})
		s.put("P9.4", at(0, 2), api.OK)
		s.got("P9.3", at(2, 0))
		s.tells("P9.3", []int{0, 2}, api.Dirty{Page: 0, Since: 1})
		s.pin("P9.5", 0, api.OK)
		s.pin("P9.5", 2, api.OK)
		s.notGot("P9.3", 1, api.ErrFull)
		s.tells("P9.3", []int{0, 2}, api.Dirty{Page: 0, Since: 1})
	})
	s.calls("P9.3: one is written", 10, func() {
		s.unpin("P9.5", 0, api.OK)
		s.got("P9.3", at(1, 0))
		s.tells("P9.3", []int{1, 2})
	})
	s.calls("P9.1: rows 7 and 8", 0, func() {
		s.got("P9.9", at(0, 2))
		s.tells("P9.3", []int{0, 2})
		s.evict("P9.6", 2, api.ErrPinned)
		s.flush("P9.6", 0, api.OK)
		s.flush("P9.6", 1, api.ErrAbsent)
		s.tells("P9.6", []int{0, 2})
	})
}

func TestNew(t *testing.T) {
	for _, c := range []struct {
		sectors int
		s       api.Shape
		e       api.Errno
	}{
		{15, small, api.OK},
		{15, api.Shape{Pages: 3, Log: 4, Frames: 16}, api.OK},
		{15, api.Shape{Pages: 2, Log: 6, Frames: 2}, api.OK},
		{13, api.Shape{Pages: 2, Log: 4, Frames: 2}, api.OK},
		{5 + 128 + 4096, api.Shape{Pages: 64, Log: 4096, Frames: 16}, api.OK},
		{14, small, api.ErrLimits},
		{16, small, api.ErrLimits},
		{15, api.Shape{}, api.ErrLimits},
		{15, api.Shape{Pages: 3, Log: 4, Frames: 1}, api.ErrLimits},
		{15, api.Shape{Pages: 3, Log: 4, Frames: 17}, api.ErrLimits},
		{15, api.Shape{Pages: 3, Log: 4, Frames: -2}, api.ErrLimits},
		{13, api.Shape{Pages: 1, Log: 6, Frames: 2}, api.ErrLimits},
		{14, api.Shape{Pages: 3, Log: 3, Frames: 2}, api.ErrLimits},
		{5 + 130 + 4, api.Shape{Pages: 65, Log: 4, Frames: 2}, api.ErrLimits},
		{5 + 4 + 4097, api.Shape{Pages: 2, Log: 4097, Frames: 2}, api.ErrLimits},
		{15, api.Shape{Pages: math.MaxInt, Log: math.MaxInt, Frames: math.MaxInt}, api.ErrLimits},
		{15, api.Shape{Pages: math.MinInt, Log: 10, Frames: 2}, api.ErrLimits},
	} {
		d, _ := sectors.New(c.sectors)
		l, err := log.Open(d, 0, 4)
		if err != nil {
			t.Fatal(err)
		}
		p, e := pool.New(d, l, c.s)
		if e != c.e || (p == nil) != (c.e != api.OK) {
			t.Errorf("P9.2: New of %d sectors, %v = %v, %d, want %d", c.sectors, c.s, p != nil, e, c.e)
		}
		if p != nil && len(p.Held())+len(p.Dirty()) > 0 {
			t.Errorf("P9.2: a new pool holds %v, dirty %v", p.Held(), p.Dirty())
		}
		if d.Calls() > 0 {
			t.Error("P9.1: New changes the disk")
		}
	}
}

func TestNewOfNothing(t *testing.T) {
	s := made(t, small, 2, 2)
	for _, shape := range []api.Shape{small, {}, {Pages: 2, Log: 4, Frames: 2}} {
		for _, c := range []struct {
			d *sectors.Device
			l *log.Log
		}{{nil, nil}, {nil, s.log}, {s.disk, nil}} {
			if p, e := pool.New(c.d, c.l, shape); p != nil || e != api.ErrHandle {
				t.Errorf("P9.2: New of nil = %v, %d, want ErrHandle", p != nil, e)
			}
		}
	}
	s.disk.Crash(api.Loss{})
	if p, e := pool.New(s.disk, s.log, small); p == nil || e != api.OK {
		t.Errorf("P9.2: New asks nothing of a disk that is down, and answers %d", e)
	}
}

// TestNumbersThatAreNoPage: of the shape's own pages, not of all that a page may be.
func TestNumbersThatAreNoPage(t *testing.T) {
	for _, pages := range []int{2, 3, 63, 64} {
		s := made(t, api.Shape{Pages: pages, Log: 4, Frames: 2}, 2, 0)
		s.got("P9.3: the last page", at(pages-1, 0))
		s.tells("P9.7", []int{pages - 1})
		s.calls("P9.1", 0, func() {
			for _, n := range []int{math.MinInt, -1 << 32, -64, -1, pages, pages + 1, 64, 1 << 32, math.MaxInt} {
				s.notGot("P9.3", n, api.ErrPlace)
				s.pin("P9.5", n, api.ErrPlace)
				s.unpin("P9.5", n, api.ErrPlace)
				s.evict("P9.6", n, api.ErrPlace)
				s.flush("P9.6", n, api.ErrPlace)
				s.put("P9.4", page.Page{Number: n, LSN: 1, Groups: []api.Group{{ID: 7}}}, api.ErrPlace)
				s.put("P9.4: ahead of Encode's", page.Page{Number: n, LSN: -1}, api.ErrPlace)
			}
		})
		s.tells("P9.7", []int{pages - 1})
	}
}

// TestOrderOfPutsErrors: each page has the fault that is asked for and all that are asked for behind it.
func TestOrderOfPutsErrors(t *testing.T) {
	s := made(t, small, 2, 0)
	s.got("P9.3", at(0, 0))
	s.put("P9.4", at(0, 1), api.OK)
	counter, group := at(2, 1).Counters[0], at(1, 1).Groups[0]
	for _, n := range []int{0, 1} { // held, and not
		s.put("P9.4", page.Page{Number: n, LSN: 9, Counters: []api.Counter{counter}, Groups: []api.Group{group}}, api.ErrKind)
		s.put("P9.4", page.Page{Number: n, LSN: 9, Counters: make([]api.Counter, 32)}, api.ErrFull)
		s.put("P9.4", page.Page{Number: n, LSN: 9, Groups: make([]api.Group, 85)}, api.ErrFull)
		s.put("P9.4", page.Page{Number: n, LSN: 9}, api.ErrField)
		s.put("P9.4", page.Page{Number: n, LSN: math.MinInt, Groups: []api.Group{group}}, api.ErrField)
		s.put("P9.4", page.Page{Number: n, LSN: math.MaxInt, Groups: []api.Group{group}}, api.ErrField)
		s.put("P9.4", page.Page{Number: n, LSN: 9, Groups: []api.Group{{}}}, api.ErrField)
		counter.Bounds = api.Range{Lo: 1, Hi: 0}
		s.put("P9.4", page.Page{Number: n, LSN: 9, Counters: []api.Counter{counter}}, api.ErrRange)
	}
	s.put("P9.4: it isn't held", at(1, 9), api.ErrAbsent)
	s.put("P9.4: it isn't held", at(1, 2), api.ErrAbsent)
	s.put("P9.4: behind the log's end", at(0, 3), api.ErrPlace)
	s.put("P9.4: behind the log's end", at(0, api.MaxLSN), api.ErrPlace)
	s.put("P9.4: not above its LSN", at(0, 1), api.ErrPlace)
	s.put("P9.4: an empty page", at(0, 0), api.ErrPlace)
	s.tells("P9.4: what is refused changes nothing", []int{0}, api.Dirty{Page: 0, Since: 1})
	s.got("P9.4: what is refused changes nothing", at(0, 1))
	s.put("P9.4: the log's last record", at(0, 2), api.OK)
	s.got("P9.4", at(0, 2))
}

// TestPutOfAnyContent: of the other kind, and as full as a page may be.
func TestPutOfAnyContent(t *testing.T) {
	s := made(t, api.Shape{Pages: 2, Log: 9, Frames: 2}, 9, 0)
	s.got("P9.3", at(1, 0))
	for lsn, x := range []page.Page{
		{Counters: make([]api.Counter, 31)}, {Groups: make([]api.Group, 84)},
		{Groups: []api.Group{{Sum: math.MinInt64}}}, {Counters: []api.Counter{{Value: math.MaxInt64}}},
	} {
		for i := range x.Counters {
			x.Counters[i].ID, x.Counters[i].Group = i+1, api.MaxGroup
			x.Counters[i].Bounds = api.Range{Lo: math.MinInt64, Hi: math.MaxInt64}
		}
		for i := range x.Groups {
			x.Groups[i].ID = i + 1
		}
		x.Number, x.LSN = 1, lsn+1
		s.put("P9.4", x, api.OK)
		s.got("P9.4", x)
		s.evict("P9.6", 1, api.OK)
		s.onDisk("P9.6", x)
		s.got("P9.9", x)
	}
}

func TestPinsAreCounted(t *testing.T) {
	s := made(t, small, 2, 0)
	s.unpin("P9.5: not held", 1, api.ErrAbsent)
	for range 3 {
		s.pin("P9.5", 1, api.OK)
	}
	s.tells("P9.5: Pin does what Get does", []int{1})
	for range 2 {
		s.unpin("P9.5", 1, api.OK)
		s.evict("P9.6: still pinned", 1, api.ErrPinned)
	}
	s.unpin("P9.5", 1, api.OK)
	s.unpin("P9.5: not pinned", 1, api.ErrAbsent)
	s.tells("P9.5: Unpin lets it stay", []int{1})
	s.evict("P9.6", 1, api.OK)
	s.tells("P9.6", nil)
	s.got("P9.3", at(1, 0))
	s.unpin("P9.3: it comes without a pin", 1, api.ErrAbsent)
	s.evict("P9.6", 1, api.OK)
}

// TestPinnedPagesStay: whatever was used since, and whether they are dirty.
func TestPinnedPagesStay(t *testing.T) {
	s := made(t, api.Shape{Pages: 9, Log: 9, Frames: 3}, 9, 0)
	s.pin("P9.5", 4, api.OK)
	s.put("P9.4: a pinned page", at(4, 1), api.OK)
	s.pin("P9.5", 2, api.OK)
	for n := range 9 {
		if n != 4 && n != 2 {
			s.got("P9.3", at(n, 0))
			s.tells("P9.3", sorted(2, 4, n), api.Dirty{Page: 4, Since: 1})
		}
	}
	s.pin("P9.5", 8, api.OK)
	s.calls("P9.3: all are pinned", 0, func() {
		s.notGot("P9.3", 0, api.ErrFull)
		s.pin("P9.5: Get's errors", 0, api.ErrFull)
		s.unpin("P9.5", 0, api.ErrAbsent)
		s.got("P9.3: a held page", at(2, 0))
		s.pin("P9.5: a held page", 2, api.OK)
		s.tells("P9.3", []int{2, 4, 8}, api.Dirty{Page: 4, Since: 1})
	})
	s.flush("P9.6: a pinned page", 4, api.OK)
	s.onDisk("P9.6", at(4, 1))
	s.tells("P9.6", []int{2, 4, 8})
	s.unpin("P9.5", 2, api.OK)
	s.notGot("P9.3: pinned once more", 0, api.ErrFull)
	s.unpin("P9.5", 2, api.OK)
	s.pin("P9.5", 0, api.OK)
	s.tells("P9.5: the one leaves that is not pinned", []int{0, 4, 8})
}

func sorted(list ...int) []int {
	slices.Sort(list)
	return list
}

// TestWhichOneLeaves: 0, 1 and 2 were used in that order; then something happens to one of them.
func TestWhichOneLeaves(t *testing.T) {
	for _, c := range []struct {
		what  string
		do    func(s *store)
		leave []int // one behind the other
	}{
		{"nothing", func(*store) {}, []int{0, 1, 2}},
		{"Get", func(s *store) { s.Get(0) }, []int{1, 2, 0}},
		{"Get of the middle one", func(s *store) { s.Get(1) }, []int{0, 2, 1}},
		{"Put", func(s *store) { s.Put(at(0, 1)) }, []int{1, 2, 0}},
		{"Pin, Unpin", func(s *store) { s.Pin(0); s.Unpin(0) }, []int{1, 2, 0}},
		{"Unpin", func(s *store) { s.Pin(0); s.Get(1); s.Get(2); s.Unpin(0) }, []int{0, 1, 2}},
		{"a Put that is refused", func(s *store) { s.Put(at(0, 0)) }, []int{0, 1, 2}},
		{"Flush", func(s *store) { s.Put(at(0, 1)); s.Get(1); s.Get(2); s.Flush(0) }, []int{0, 1, 2}},
		{"Flush of a clean one", func(s *store) { s.Flush(0) }, []int{0, 1, 2}},
		{"a Get that is refused", func(s *store) { s.Get(9); s.Get(-1) }, []int{0, 1, 2}},
		{"an Unpin that is refused", func(s *store) { s.Unpin(0) }, []int{0, 1, 2}},
		{"an Evict that is refused", func(s *store) { s.Pin(0); s.Get(1); s.Get(2); s.Evict(0); s.Unpin(0) }, []int{0, 1, 2}},
		{"Dirty and Held", func(s *store) { s.Dirty(); s.Held() }, []int{0, 1, 2}},
		{"one that comes back", func(s *store) { s.Evict(0); s.Get(0) }, []int{1, 2, 0}},
		{"one pinned", func(s *store) { s.Pin(0); s.Get(1); s.Get(2); s.Get(1) }, []int{2, 1, 3}},
	} {
		s := made(t, api.Shape{Pages: 6, Log: 4, Frames: 3}, 1, 0)
		for n := range 3 {
			s.got("P9.3", at(n, 0))
		}
		c.do(s)
		held := []int{0, 1, 2}
		for i, gone := range c.leave {
			if _, err := s.Get(3 + i); err != nil {
				t.Fatal(err)
			}
			held = append(slices.DeleteFunc(held, func(n int) bool { return n == gone }), 3+i)
			if !slices.Equal(s.Held(), sorted(slices.Clone(held)...)) {
				t.Errorf("P9.3: behind %s: held %v, want %v (%d should have left)", c.what, s.Held(), held, gone)
			}
		}
	}
}

func TestDirtySince(t *testing.T) {
	s := made(t, api.Shape{Pages: 4, Log: 9, Frames: 4}, 9, 0)
	for _, n := range []int{3, 1, 0, 2} {
		s.got("P9.3", at(n, 0))
	}
	s.put("P9.4", at(3, 2), api.OK)
	s.put("P9.4", at(0, 4), api.OK)
	s.put("P9.4", at(2, 3), api.OK)
	s.put("P9.4: the first one counts", at(3, 6), api.OK)
	s.tells("P9.7", []int{0, 1, 2, 3}, api.Dirty{Page: 0, Since: 4}, api.Dirty{Page: 2, Since: 3}, api.Dirty{Page: 3, Since: 2})
	s.flush("P9.6", 3, api.OK)
	s.tells("P9.7: it is clean", []int{0, 1, 2, 3}, api.Dirty{Page: 0, Since: 4}, api.Dirty{Page: 2, Since: 3})
	s.got("P9.6: and stays", at(3, 6))
	s.put("P9.4", at(3, 8), api.OK)
	s.put("P9.4", at(3, 9), api.OK)
	s.evict("P9.6", 0, api.OK)
	s.tells("P9.7: since it was written last", []int{1, 2, 3}, api.Dirty{Page: 2, Since: 3}, api.Dirty{Page: 3, Since: 8})
	s.got("P9.9", at(0, 4))
	s.tells("P9.3: it comes back clean", []int{0, 1, 2, 3}, api.Dirty{Page: 2, Since: 3}, api.Dirty{Page: 3, Since: 8})
	s.put("P9.4", at(0, 5), api.OK)
	s.tells("P9.7: since it came", []int{0, 1, 2, 3}, api.Dirty{Page: 0, Since: 5}, api.Dirty{Page: 2, Since: 3}, api.Dirty{Page: 3, Since: 8})
}

// TestTheLogComesFirst: it is forced as far as the page asks for, and no further.
func TestTheLogComesFirst(t *testing.T) {
	for lsn := 1; lsn <= 4; lsn++ {
		for forced := 0; forced <= 4; forced++ {
			for _, call := range []string{"Evict", "Flush", "Get", "Pin"} {
				s := made(t, small, 4, forced)
				s.got("P9.3", at(0, 0))
				s.got("P9.3", at(1, 0))
				s.put("P9.4", at(0, lsn), api.OK)
				s.got("P9.3", at(1, 0))
				if s.log.Forced() != forced {
					t.Error("P9.4: Put forces the log")
				}
				want := 10
				if lsn > forced {
					want += lsn - forced + 1
				}
				s.calls("Words: to write, by "+call, want, func() { s.byCall(call) })
				if s.log.Forced() != max(lsn, forced) {
					t.Errorf("Words: %s of LSN %d forces up to %d, from %d on", call, lsn, s.log.Forced(), forced)
				}
				s.onDisk("Words: to write, by "+call, at(0, lsn))
			}
		}
	}
}

// byCall: page 0, which was used longest ago, is written by that call.
func (s *store) byCall(call string) {
	s.t.Helper()
	switch call {
	case "Evict":
		s.evict("P9.6", 0, api.OK)
		s.tells("P9.6", []int{1})
	case "Flush":
		s.flush("P9.6", 0, api.OK)
		s.tells("P9.6", []int{0, 1})
	case "Get":
		s.got("P9.3", at(2, 0))
		s.tells("P9.3", []int{1, 2})
	case "Pin":
		s.pin("P9.5", 2, api.OK)
		s.tells("P9.5", []int{1, 2})
	}
}

// TestACleanPageIsNeverWritten: nor is the log forced for it, whatever its LSN is.
func TestACleanPageIsNeverWritten(t *testing.T) {
	pages := map[int][]byte{}
	for n := range 3 {
		pages[n] = encoded(t, at(n, 2))
	}
	s := over(t, laid(t, small, pages), small, 2, 0)
	s.calls("Words: a clean page", 0, func() {
		for range 3 {
			for n := range 3 {
				s.got("P9.3", at(n, 2))
				s.flush("P9.6", n, api.OK)
			}
		}
		s.evict("P9.6", 2, api.OK)
		s.pin("P9.5", 0, api.OK)
	})
	if s.log.Forced() != 0 {
		t.Error("Words: the log is forced for a clean page")
	}
}

// TestPageAheadOfTheLog: no Put can be above its LSN and within the log.
func TestPageAheadOfTheLog(t *testing.T) {
	s := over(t, laid(t, small, map[int][]byte{0: encoded(t, at(0, 3))}), small, 2, 2)
	s.got("P9.3", at(0, 3))
	for lsn := 1; lsn <= 4; lsn++ {
		s.put("P9.4", at(0, lsn), api.ErrPlace)
	}
	appendRecords(t, s.log, 2)
	s.put("P9.4: the log goes on", at(0, 3), api.ErrPlace)
	s.put("P9.4: the log goes on", at(0, 4), api.OK)
}

// TestSpoiltPages: page.Decode's error, and the one that had to leave has left.
func TestSpoiltPages(t *testing.T) {
	spoilt := func(i int) []byte {
		b := encoded(t, at(2, 1))
		b[i] ^= 1
		return b
	}
	for _, c := range []struct {
		b []byte
		e api.Errno
	}{
		{spoilt(0), api.ErrMark}, {spoilt(1023), api.ErrSum}, {encoded(t, at(1, 1)), api.ErrPage},
		{append([]byte{0x71, 3}, make([]byte, 1022)...), api.ErrKind},
	} {
		s := over(t, laid(t, small, map[int][]byte{2: c.b}), small, 2, 1)
		s.notGot("P9.3: with room", 2, c.e)
		s.pin("P9.5: with room", 2, c.e)
		s.tells("P9.3: it is not held", nil)
		s.got("P9.3", at(0, 0))
		s.put("P9.4", at(0, 2), api.OK)
		s.got("P9.3", at(1, 0))
		s.notGot("P9.3", 2, c.e)
		s.tells("P9.3: the one that has left stays away", []int{1})
		s.onDisk("P9.3: it is written all the same", at(0, 2))
		s.flush("P9.6", 2, api.ErrAbsent)
		s.unpin("P9.5: it isn't pinned", 2, api.ErrAbsent)
		s.got("P9.9", at(0, 2))
		s.pin("P9.5", 2, c.e)
		s.tells("P9.5: as Get", []int{0})
	}
}

// TestEveryPageAtItsHome: of the greatest shape, through two frames.
func TestEveryPageAtItsHome(t *testing.T) {
	for _, frames := range []int{2, 16} {
		shape := api.Shape{Pages: 64, Log: 64, Frames: frames}
		s := made(t, shape, 64, 0)
		was := s.disk.Image()
		for n := range 64 {
			s.got("P9.3", at(n, 0))
			s.put("P9.4", at(n, 64-n), api.OK)
			if len(s.Held()) != min(n+1, frames) || len(s.Dirty()) != len(s.Held()) {
				t.Fatalf("P9.3: held %v, dirty %v of %d", s.Held(), s.Dirty(), frames)
			}
		}
		for _, n := range s.Held() {
			s.evict("P9.6", n, api.OK)
		}
		for n := range 64 {
			s.onDisk("Words: its home", at(n, 64-n))
			s.got("P9.9", at(n, 64-n))
		}
		if now := s.disk.Image(); !slices.Equal(now[:2*512], was[:2*512]) {
			t.Error("P9.1: the master's sectors change")
		}
		if l := opened(t, s.disk, shape); l.Last() != 64 {
			t.Errorf("P9.8: the log has %d records, want 64", l.Last())
		}
	}
}

// TestAnotherLog: the log's own disk need not be the pool's, and is asked all the same.
func TestAnotherLog(t *testing.T) {
	d, _ := sectors.New(15)
	far, _ := sectors.New(9)
	l, err := log.Open(far, 2, 7)
	if err != nil {
		t.Fatal(err)
	}
	appendRecords(t, l, 3)
	p, e := pool.New(d, l, small)
	if e != api.OK {
		t.Fatalf("P9.2: %d", e)
	}
	s := &store{Pool: p, t: t, disk: d, log: l, shape: small}
	s.got("P9.3", at(0, 0))
	s.put("P9.4", at(0, 2), api.OK)
	s.calls("Words: to write", 10, func() { s.flush("P9.6", 0, api.OK) })
	if l.Forced() != 2 || far.Calls() != 3 {
		t.Errorf("Words: forced %d by %d calls, want 2 by 3", l.Forced(), far.Calls())
	}
	s.put("P9.4", at(0, 3), api.OK)
	far.Crash(api.Loss{})
	s.calls("P9.1: l.Force answers ErrDown", 0, func() { s.evict("P9.6", 0, api.ErrDown) })
	s.wantEnded("P9.1: l.Force answers ErrDown")
}
